/- bytes.Join of four rows, with nothing between them. -/
import Derived.Test.YtdjpdllgifdhaaaKo
import Derived.Laws.IdiomCopy
import Derived.Lib.MakeNoZero
namespace Go.Proofs.Ytdjpdllgifdhaaa
open Go.RowKit
set_option linter.unusedVariables false

/-- A built-in copy whose run is known. -/
theorem wpList_copy_run {P : Program} (w : World) {ops : Array Oper} {rest : List Oper} {o : Oper} {a : Act} {Q : Exit → Act → World → Prop}
    (hg : o.guard = none) (s x : Operand) (t tx : TypeId) (hop : o.op = Op.call { callee := Callee.builtin Builtin.copy, args := #[s, x], argTypes := #[t, tx] })
    (vs vx : Value) (hs : a.eval s = vs) (hx : a.eval x = vx) (v' : Value) (w' : World) (hrun : (Builtin.copy_ #[t, tx] o.type #[vs, vx]).run P w = .ok v' w')
    (hK : wpList P ops Q rest (a.put o.dst v') w') : wpList P ops Q (o :: rest) a w := by
  refine wpList_plain hg fun K hK' => ?_
  unfold Oper.wp
  simp [execOp, hop, resolve, invoke, builtin, hs, hx, hrun, Result.andThen]
  exact hK' _ _ hK

set_option maxHeartbeats 4000000 in
theorem join_run (sb k1 k2 k3 k4 c1 c2 c3 c4 T cs : Nat) (a1 a2 a3 a4 : Option Addr) (w w1 w2 w3 w4 w5 : World) (hT : T = k1 + k2 + k3 + k4) (hb : T ≤ 140737488355328) (p1 : 0 < k1) (p2 : 0 < k2) (p3 : 0 < k3)
    (d1 : w.cell? ⟨sb, 0, none⟩ = some (.slice a1 k1 c1)) (d2 : w.cell? ⟨sb, 1, none⟩ = some (.slice a2 k2 c2)) (d3 : w.cell? ⟨sb, 2, none⟩ = some (.slice a3 k3 c3)) (d4 : w.cell? ⟨sb, 3, none⟩ = some (.slice a4 k4 c4))
    (hmk : (callFunc 51 #[.int .i64 (T : Int)]).run Try.prog w = .ok (.value (.slice (some ⟨w.heap.size, 0, none⟩) T cs)) w1) (hcs : T ≤ cs)
    (e1 : w1.cell? ⟨sb, 0, none⟩ = some (.slice a1 k1 c1)) (e2 : w2.cell? ⟨sb, 1, none⟩ = some (.slice a2 k2 c2)) (e3 : w3.cell? ⟨sb, 2, none⟩ = some (.slice a3 k3 c3)) (e4 : w4.cell? ⟨sb, 3, none⟩ = some (.slice a4 k4 c4))
    (hn : ∀ (W : World) (ao : Option Addr) (n c : Nat), (Builtin.copy_ #[22, 22] 3 #[.slice ao n c, .slice none 0 0]).run Try.prog W = .ok (.int .i64 0) W)
    (hc1 : (Builtin.copy_ #[22, 22] 3 #[.slice (some ⟨w.heap.size, 0, none⟩) T T, .slice a1 k1 c1]).run Try.prog w1 = .ok (.int .i64 (k1 : Int)) w2)
    (hc2 : (Builtin.copy_ #[22, 22] 3 #[.slice (some ⟨w.heap.size, k1, none⟩) (T - k1) (T - k1), .slice a2 k2 c2]).run Try.prog w2 = .ok (.int .i64 (k2 : Int)) w3)
    (hc3 : (Builtin.copy_ #[22, 22] 3 #[.slice (some ⟨w.heap.size, k1 + k2, none⟩) (T - (k1 + k2)) (T - (k1 + k2)), .slice a3 k3 c3]).run Try.prog w3 = .ok (.int .i64 (k3 : Int)) w4)
    (hc4 : ∀ (ao : Option Addr) (n c : Nat), (ao = some ⟨w.heap.size, k1 + k2 + k3, none⟩ ∧ n = T - (k1 + k2 + k3)) ∨ k4 = 0 → (Builtin.copy_ #[22, 22] 3 #[.slice ao n c, .slice a4 k4 c4]).run Try.prog w4 = .ok (.int .i64 (k4 : Int)) w5) :
    Calls Try.prog 34 #[.slice (some ⟨sb, 0, none⟩) 4 4, .slice none 0 0] w fun e w' => e = .returned (.slice (some ⟨w.heap.size, 0, none⟩) T T) ∧ w' = w5 := by
  have b1 : (k1 : Int) ≤ 140737488355328 := by omega
  have b2 : (k2 : Int) ≤ 140737488355328 := by omega
  have b3 : (k3 : Int) ≤ 140737488355328 := by omega
  have b4 : (k4 : Int) ≤ 140737488355328 := by omega
  have hTT : (T : Int) ≤ (cs : Int) := by omega
  have q1 : ¬ T = k1 := by omega
  have q2 : ¬ T = k1 + k2 := by omega
  have r1 : (k1 : Int) ≤ (T : Int) := by omega
  have r2 : (k1 : Int) + (k2 : Int) ≤ (T : Int) := by omega
  have r3 : (k1 : Int) + (k2 : Int) + (k3 : Int) ≤ (T : Int) := by omega
  have HT := hd hT
  have HM := hd hmk
  have HN := hd hn
  have HC1 := hd hc1
  have HC2 := hd hc2
  have HC3 := hd hc3
  have HC4 := hd hc4
  clear hT hmk hn hc1 hc2 hc3 hc4
  go_enter Try.func34, Try.ntmps34
  go_wp2_with fail
  refine wp_loop_rounds 5 ?_
  rw [rounds_succ]
  go_wp2_with fail
  rw [rounds_succ]
  go_wp2_with fail
  rw [rounds_succ]
  go_wp2_with fail
  rw [rounds_succ]
  go_wp2_with fail
  rw [rounds_succ]
  go_wp2_with fail
  rw [show ((k1 : Int) + (k2 : Int) + (k3 : Int) + (k4 : Int)) = (T : Int) from by have := HT.out; omega]
  rw [HM.out, Oper.upon_value]
  clear d1 d2 d3 d4
  have tok1 : True := trivial
  go_wp2_with (have _t := tok1; refine wpList_copy_run _ rfl _ _ _ _ rfl _ _ rfl rfl (.int .i64 (k1 : Int)) w2 HC1.out ?_; clear tok1)
  refine wp_loop_rounds 4 ?_
  rw [rounds_succ]
  have tok1 : True := trivial
  have tok2 : True := trivial
  go_wp2_with (first
    | (have _t := tok1; refine wpList_copy_run _ rfl _ _ _ _ rfl _ _ rfl rfl (.int .i64 0) w2 (HN.out _ _ _ _) ?_; clear tok1)
    | (have _t := tok2; refine wpList_copy_run _ rfl _ _ _ _ rfl _ _ rfl rfl (.int .i64 (k2 : Int)) w3 HC2.out ?_; clear tok2))
  rw [rounds_succ]
  have tok1 : True := trivial
  have tok2 : True := trivial
  go_wp2_with (first
    | (have _t := tok1; refine wpList_copy_run _ rfl _ _ _ _ rfl _ _ rfl rfl (.int .i64 0) w3 (HN.out _ _ _ _) ?_; clear tok1)
    | (have _t := tok2; refine wpList_copy_run _ rfl _ _ _ _ rfl _ _ rfl rfl (.int .i64 (k3 : Int)) w4 HC3.out ?_; clear tok2))
  rw [rounds_succ]
  have tok1 : True := trivial
  have tok2 : True := trivial
  go_wp2_with (first
    | (have _t := tok1; refine wpList_copy_run _ rfl _ _ _ _ rfl _ _ rfl rfl (.int .i64 0) w4 (HN.out _ _ _ _) ?_; clear tok1)
    | (have _t := tok2; refine wpList_copy_run _ rfl _ _ _ _ rfl _ _ rfl rfl (.int .i64 (k4 : Int)) w5 (HC4.out _ _ _ ?hx) ?_; clear tok2))
  all_goals first
    | (rw [rounds_succ]; go_wp2; go_ret; exact ⟨rfl, rfl⟩)
    | (rw [rounds_succ]; go_wp2; go_ret; have hq : T = k1 + k2 + k3 := by assumption
       exact ⟨by rw [hq]; rfl, rfl⟩)
    | (have h := HT.out; omega)

/-- The block g holds a row of T bytes or more, of which the first are l. -/
def Fill (w : World) (g T : Nat) (l : List Int) : Prop :=
  g < w.heap.size ∧ (∀ i, i < T → (w.cell? ⟨g, i, none⟩).isSome = true) ∧ (∀ i, i < T → w.frozen? ⟨g, i, none⟩ = false) ∧ ∀ i, i < l.length → w.cell? ⟨g, i, none⟩ = some (.int .u8 (l.getD i 0))

theorem kp_setCells (b : Nat) : ∀ (vs : List Value) (o : Nat) (w : World), Kp (fun k => k = b) w (w.setCells b o vs)
  | [], _, w => Kp.refl _ w
  | v :: r, o, w => ((Kp.refl (fun k => k = b) w).setCell ⟨b, o, none⟩ v (fun _ => rfl)).trans (kp_setCells b r (o + 1) (w.setCell ⟨b, o, none⟩ v))

theorem s5' : (Try.prog.info? 5).map (·.size) = some 1 := by kernel_rfl

/-- One copy of Join's. -/
theorem copy_step {N g T bp : Nat} {w : World} {v : Value} {l m : List Int} {ao : Option Addr} {n c : Nat} (hf : Fill w g T l) (hv : Bx N w v m) (hm : Byt m) (hN : N ≤ g) (hbp : l.length = bp) (hT : bp + m.length ≤ T)
    (ha : (ao = some ⟨g, bp, none⟩ ∧ n = T - bp) ∨ m.length = 0) :
    ∃ w', (Builtin.copy_ #[22, 22] 3 #[.slice ao n c, v]).run Try.prog w = .ok (.int .i64 (m.length : Int)) w' ∧ Fill w' g T (l ++ m) ∧ Kp (fun k => k = g) w w' := by
  by_cases h0 : m.length = 0
  · obtain ⟨a', c', rfl⟩ := hv.len
    have e0 : m = [] := List.length_eq_zero_iff.1 h0
    refine ⟨w, ?_, by rw [e0, List.append_nil]; exact hf, Kp.refl _ _⟩
    have h := run_copy_none (P := Try.prog) w 22 22 3 5 ao a' n c m.length c' Try.underlying22 s5' (by rw [h0]; exact Nat.zero_min _)
    rw [h0] at h ⊢
    exact h
  · rcases ha with ⟨rfl, rfl⟩ | ha
    · rcases hv with hv | ⟨hv, _⟩
      · obtain ⟨_, _, h3⟩ := hv
        rcases h3 with ⟨_, hnil⟩ | ⟨b, off, cap, rfl, hc, hA, hlt, hcell⟩
        · rw [hnil] at h0; exact absurd rfl h0
        · obtain ⟨f1, f2, f3, f4⟩ := hf
          have hcells : ∀ j u, (m.map (Value.int .u8))[j]? = some u → w.cell? ((⟨b, off, none⟩ : Addr).add j) = some u := by
            intro j u hj
            rw [List.getElem?_map] at hj
            by_cases hjl : j < m.length
            · rw [List.getElem?_eq_getElem hjl] at hj
              simp only [Option.map_some, Option.some.injEq] at hj
              rw [Addr.add_lit, hcell j hjl, ← hj, List.getD_eq_getElem?_getD, List.getElem?_eq_getElem hjl]
              rfl
            · rw [List.getElem?_eq_none (by omega)] at hj
              cases hj
          have hlen : (m.map (Value.int .u8)).length = m.length := List.length_map ..
          have hrun := run_copy_cells (P := Try.prog) w 22 22 3 5 g bp (T - bp) c ⟨b, off, none⟩ m.length cap (m.map (Value.int .u8)) Try.underlying22 s5'
            (by rw [hlen]; exact (Nat.min_eq_left (by omega)).symm) hcells (fun j hj => f2 _ (by rw [hlen] at hj; omega)) (fun j hj => f3 _ (by rw [hlen] at hj; omega)) (fun u hu => by obtain ⟨_, _, rfl⟩ := List.mem_map.1 hu; rfl)
          rw [hlen] at hrun
          refine ⟨_, hrun, ?_, kp_setCells g _ bp w⟩
          have hk := kp_setCells g (m.map (Value.int .u8)) bp w
          have hin := World.cell?_setCells_in g (m.map (Value.int .u8)) bp w (fun j hj => f2 _ (by rw [hlen] at hj; omega))
          have hout : ∀ i, (i < bp ∨ bp + m.length ≤ i) → (w.setCells g bp (m.map (Value.int .u8))).cell? ⟨g, i, none⟩ = w.cell? ⟨g, i, none⟩ :=
            fun i hi => World.cell?_setCells_out g _ bp w ⟨g, i, none⟩ (fun _ _ => by rw [hlen]; exact hi)
          have hget : ∀ j, j < m.length → (w.setCells g bp (m.map (Value.int .u8))).cell? ⟨g, bp + j, none⟩ = some (.int .u8 (m.getD j 0)) := by
            intro j hj
            rw [hin j (by rw [hlen]; exact hj), List.getElem_map, List.getD_eq_getElem?_getD, List.getElem?_eq_getElem hj]
            rfl
          refine ⟨Nat.lt_of_lt_of_le f1 hk.size, fun i hi => ?_, fun i hi => ?_, fun i hi => ?_⟩
          · by_cases hq : i < bp ∨ bp + m.length ≤ i
            · rw [hout i hq]; exact f2 i hi
            · have hj := hget (i - bp) (by omega)
              rw [show bp + (i - bp) = i by omega] at hj
              rw [hj]; rfl
          · rw [World.frozen?_setCells]; exact f3 i hi
          · rw [List.length_append] at hi
            by_cases hq : i < bp
            · rw [hout i (Or.inl hq), f4 i (by omega)]
              rw [List.getD_eq_getElem?_getD, List.getD_eq_getElem?_getD, List.getElem?_append_left (by omega)]
            · have hj := hget (i - bp) (by omega)
              rw [show bp + (i - bp) = i by omega] at hj
              rw [hj, List.getD_eq_getElem?_getD, List.getD_eq_getElem?_getD, List.getElem?_append_right (by omega), hbp]
      · rw [hv] at h0; exact absurd rfl h0
    · exact absurd ha h0

/-- bytes.Join of four rows, the first three not empty. -/
theorem join_any {N sb c1 c2 c3 c4 k1 k2 k3 k4 : Nat} {a1 a2 a3 a4 : Option Addr} {w : World} {l1 l2 l3 l4 : List Int}
    (d1 : w.cell? ⟨sb, 0, none⟩ = some (.slice a1 k1 c1)) (d2 : w.cell? ⟨sb, 1, none⟩ = some (.slice a2 k2 c2)) (d3 : w.cell? ⟨sb, 2, none⟩ = some (.slice a3 k3 c3)) (d4 : w.cell? ⟨sb, 3, none⟩ = some (.slice a4 k4 c4))
    (hN : N ≤ w.heap.size) (x1 : Bx N w (.slice a1 k1 c1) l1) (x2 : Bx N w (.slice a2 k2 c2) l2) (x3 : Bx N w (.slice a3 k3 c3) l3) (x4 : Bx N w (.slice a4 k4 c4) l4) (y1 : Byt l1) (y2 : Byt l2) (y3 : Byt l3) (y4 : Byt l4)
    (g1 : l1.length = k1) (g2 : l2.length = k2) (g3 : l3.length = k3) (g4 : l4.length = k4) (p1 : 0 < k1) (p2 : 0 < k2) (p3 : 0 < k3) (hb : k1 + k2 + k3 + k4 ≤ 140737488355328) :
    Calls Try.prog 34 #[.slice (some ⟨sb, 0, none⟩) 4 4, .slice none 0 0] w fun e w' => ∃ a c, e = .returned (.slice a (k1 + k2 + k3 + k4) c) ∧
      Bs (fun b => w.heap.size ≤ b) w' (.slice a (k1 + k2 + k3 + k4) c) (l1 ++ l2 ++ l3 ++ l4) ∧ Below w.heap.size w w' := by
  have hsb : sb < w.heap.size := World.block_lt_of_cell? w ⟨sb, 0, none⟩ d1
  obtain ⟨cs, hrunM, hle, _⟩ := Lib.run_makeNoZero (P := Try.prog) w #[3] 22 5 Try.underlying22 (k1 + k2 + k3 + k4) (by omega)
  have hmk : (callFunc 51 #[.int .i64 ((k1 + k2 + k3 + k4 : Nat) : Int)]).run Try.prog w = .ok (.value (.slice (some ⟨w.heap.size, 0, none⟩) (k1 + k2 + k3 + k4) cs.size)) (w.drew.drew.alloc (.cells cs 5)) := by
    rw [run_callFunc_extern Try.func51 (by kernel_rfl) (by kernel_rfl) (by kernel_rfl) (e := Extern.BytealgMakeNoZero.makeNoZero #[3] #[22]) (by kernel_rfl), hrunM]
    rfl
  have kp1 : Kp (fun k => k = w.heap.size) w (w.drew.drew.alloc (.cells cs 5)) := (((Kp.refl _ _).drew).drew).alloc _
  have f1 : Fill (w.drew.drew.alloc (.cells cs 5)) w.heap.size (k1 + k2 + k3 + k4) [] := by
    refine ⟨by simp, fun i hi => ?_, fun i hi => ?_, fun i hi => absurd hi (Nat.not_lt_zero i)⟩
    · have h := World.cell?_alloc_at (w := w.drew.drew) cs 5 w.heap.size i rfl
      rw [h, Array.getElem?_eq_getElem (by omega)]
      rfl
    · exact World.frozen?_alloc_at (w := w.drew.drew) _ _ _ _ rfl
  have keep : ∀ {v : Value} {l : List Int} {w1 w2 : World}, Bx N w1 v l → Kp (fun k => k = w.heap.size) w1 w2 → Bx N w2 v l := fun h k => h.keepO k hN
  have hcell : ∀ {w2 : World} (i : Nat), Kp (fun k => k = w.heap.size) w w2 → w2.cell? ⟨sb, i, none⟩ = w.cell? ⟨sb, i, none⟩ := fun i k => k.cell (p := ⟨sb, i, none⟩) hsb (by show ¬ sb = w.heap.size; omega)
  obtain ⟨w2, r1, f2, q2⟩ := copy_step (ao := some ⟨w.heap.size, 0, none⟩) (n := k1 + k2 + k3 + k4) (c := k1 + k2 + k3 + k4) (bp := 0) f1 (keep x1 kp1) y1 hN rfl (by omega) (Or.inl ⟨rfl, by omega⟩)
  have kp2 := kp1.trans q2
  obtain ⟨w3, r2, f3, q3⟩ := copy_step (ao := some ⟨w.heap.size, k1, none⟩) (n := k1 + k2 + k3 + k4 - k1) (c := k1 + k2 + k3 + k4 - k1) (bp := k1) f2 (keep x2 kp2) y2 hN (by simpa using g1) (by omega) (Or.inl ⟨rfl, rfl⟩)
  have kp3 := kp2.trans q3
  obtain ⟨w4, r3, f4, q4⟩ := copy_step (ao := some ⟨w.heap.size, k1 + k2, none⟩) (n := k1 + k2 + k3 + k4 - (k1 + k2)) (c := k1 + k2 + k3 + k4 - (k1 + k2)) (bp := k1 + k2) f3 (keep x3 kp3) y3 hN (by simp; omega) (by omega) (Or.inl ⟨rfl, rfl⟩)
  have kp4 := kp3.trans q4
  obtain ⟨w5, r4, f5, q5⟩ := copy_step (ao := some ⟨w.heap.size, k1 + k2 + k3, none⟩) (n := k1 + k2 + k3 + k4 - (k1 + k2 + k3)) (c := 0) (bp := k1 + k2 + k3) f4 (keep x4 kp4) y4 hN (by simp; omega) (by omega) (Or.inl ⟨rfl, rfl⟩)
  have kp5 := kp4.trans q5
  rw [g1] at r1
  rw [g2] at r2
  rw [g3] at r3
  rw [g4] at r4
  have hc4 : ∀ (ao : Option Addr) (n c : Nat), (ao = some ⟨w.heap.size, k1 + k2 + k3, none⟩ ∧ n = k1 + k2 + k3 + k4 - (k1 + k2 + k3)) ∨ k4 = 0 → (Builtin.copy_ #[22, 22] 3 #[.slice ao n c, .slice a4 k4 c4]).run Try.prog w4 = .ok (.int .i64 (k4 : Int)) w5 := by
    intro ao n c h
    by_cases h0 : k4 = 0
    · subst h0
      have e0 : w5 = w4 := by
        have h1 := run_copy_none (P := Try.prog) w4 22 22 3 5 (some ⟨w.heap.size, k1 + k2 + k3, none⟩) a4 (k1 + k2 + k3 + 0 - (k1 + k2 + k3)) 0 0 c4 Try.underlying22 s5' (Nat.zero_min _)
        rw [h1] at r4
        simp only [Result.ok.injEq] at r4
        exact r4.2.symm
      rw [e0]
      exact run_copy_none (P := Try.prog) w4 22 22 3 5 ao a4 n c 0 c4 Try.underlying22 s5' (Nat.zero_min _)
    · rcases h with ⟨rfl, rfl⟩ | h
      · obtain ⟨w6, r5, f6, q6⟩ := copy_step (ao := some ⟨w.heap.size, k1 + k2 + k3, none⟩) (n := k1 + k2 + k3 + k4 - (k1 + k2 + k3)) (c := c) (bp := k1 + k2 + k3) f4 (keep x4 kp4) y4 hN (by simp; omega) (by omega) (Or.inl ⟨rfl, rfl⟩)
        have e : (Builtin.copy_ #[22, 22] 3 #[.slice (some ⟨w.heap.size, k1 + k2 + k3, none⟩) (k1 + k2 + k3 + k4 - (k1 + k2 + k3)) c, .slice a4 k4 c4]) = (Builtin.copy_ #[22, 22] 3 #[.slice (some ⟨w.heap.size, k1 + k2 + k3, none⟩) (k1 + k2 + k3 + k4 - (k1 + k2 + k3)) 0, .slice a4 k4 c4]) := rfl
        rw [e]; exact r4
      · exact absurd h h0
  refine (join_run sb k1 k2 k3 k4 c1 c2 c3 c4 (k1 + k2 + k3 + k4) cs.size a1 a2 a3 a4 w _ w2 w3 w4 w5 rfl hb p1 p2 p3 d1 d2 d3 d4 hmk hle
    ((hcell 0 kp1).trans d1) ((hcell 1 kp2).trans d2) ((hcell 2 kp3).trans d3) ((hcell 3 kp4).trans d4)
    (fun W ao n c => run_copy_none (P := Try.prog) W 22 22 3 5 ao none n c 0 0 Try.underlying22 s5' (Nat.zero_min _)) r1 r2 r3 hc4).mono ?_
  rintro e w' ⟨rfl, rfl⟩
  have hlen : (l1 ++ l2 ++ l3 ++ l4).length = k1 + k2 + k3 + k4 := by simp; omega
  refine ⟨_, _, rfl, ⟨((y1.append y2).append y3).append y4, by omega, Or.inr ⟨w.heap.size, 0, k1 + k2 + k3 + k4, by rw [hlen], by omega, Nat.le_refl _, f5.1, fun i hi => ?_⟩⟩, kp5.below _ (Nat.le_refl _) (fun k hk e => by omega)⟩
  rw [Nat.zero_add]
  have h := f5.2.2.2 i (by simpa using hi)
  simpa using h

end Go.Proofs.Ytdjpdllgifdhaaa
