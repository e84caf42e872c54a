/- What a line says of a rule. -/
import Derived.Test.YtcigbfjmnhogiabGreatDoorWd
import Derived.Test.YtcigbfjmnhogiabGreatDoorSm
namespace Go.Proofs.YtcigbfjmnhogiabGreatDoor
open Go.RowKit
set_option linter.unusedVariables false


theorem lenP54 : (Tryz.prog.info? 37).map (·.size) = some 3 := by kernel_rfl
/-- A rule and a truth as results. -/
theorem res_rule {fn : Func} {p u : Tmp} (h : fn.results = #[.cell p 37, .tmp u]) (tmps : Array Value) (w : World) (g : Nat) (cs : Array Value)
    (hp : tmps.getD p undef = .pointer (some ⟨g, 0, none⟩)) (hg : Bk w g 37 cs) (hs : cs.size = 3) :
    (results fn tmps).run Tryz.prog w = .ok (.tuple #[.agg cs, tmps.getD u undef]) w := by
  rw [results_cell_tmp h, hp]
  have e := run_loadVar_row (P := Tryz.prog) w g 37 37 cs (0, 0) _ hg und54 rfl (by rw [hs]; exact lenP54)
  simp only [asAddr, Sem.run_pure, Result.andThen_ok, e]

set_option maxRecDepth 100000 in
set_option maxHeartbeats 4000000 in
theorem rule_core {w : World} {wb G : Nat} {ps : List ByteArray} (h : Ws w wb G ps) (X P : Int) (rt b : Bool) (hb : b = (rt && okRule (hdW ps, X, P)))
    (hc : ∀ w, Ws w wb G ps.tail → Calls Tryz.prog 57 #[.pointer (some ⟨wb, 0, none⟩)] w fun e w' => WdEnd w wb G ps.tail.tail (.tuple #[.agg #[.int .i64 X, .int .u32 P], .bool rt]) e w') :
    Calls Tryz.prog 41 #[.pointer (some ⟨wb, 0, none⟩)] w fun e w' => WdEnd w wb G ps.tail.tail (.tuple #[.agg #[.string (hdW ps), .int .i64 X, .int .u32 P], .bool b]) e w' := by
  have H := hd h
  have HC := hd hc
  have HB := hd hb
  have HGG := hd h.2.1
  have HWG := hd h.1
  clear h hc hb
  obtain ⟨s, hs⟩ : ∃ s, hdW ps = s := ⟨_, rfl⟩
  have HN := hd fun w (h : Ws w wb G ps) => name_ok h
  rw [hs] at HN HB ⊢
  clear hs
  go_enter Tryz.func41, Tryz.ntmps41
  go_wp2_with fail
  have A1 := Bk.new w 37 #[Value.string ⟨#[]⟩, Value.int IntKind.i64 0, Value.int IntKind.u32 0]
  have B1 := below1 w (Obj.cells #[Value.string ⟨#[]⟩, Value.int IntKind.i64 0, Value.int IntKind.u32 0] 37)
  generalize hw1 : w.alloc (Obj.cells #[Value.string ⟨#[]⟩, Value.int IntKind.i64 0, Value.int IntKind.u32 0] 37) = w1 at *
  clear hw1
  obtain ⟨N, hN⟩ : ∃ N, w.heap.size = N := ⟨_, rfl⟩
  have HNw : Hid (G ≤ N ∧ wb < N) := hd (by have := HGG.out; have := HWG.out; omega)
  have HNE : Hid (N ≠ wb) := hd (by have := HNw.out; omega)
  refine (HN.out w1 (H.out.below B1)).mono ?_
  rintro e w2 ⟨rfl, h2, k2⟩
  have H2 := hd h2
  have K2 := hd ((Kp.below (S := fun k => k = wb) B1).trans k2)
  rw [hN] at A1 ⊢
  have A2 := hd (A1.kp k2 HNE.out)
  clear h2 k2 A1 B1
  go_wp2_with fail
  refine (HC.out w2 H2.out).mono ?_
  rintro e w3 ⟨rfl, h3, k3⟩
  have H3 := hd h3
  have K3 := hd (K2.out.trans k3)
  have A3 := hd (A2.out.kp k3 HNE.out)
  have L3 := hd A3.out.lt
  clear h3 k3 A2 H2 K2
  go_wp2_with fail
  have A4 := (A3.out.alloc (Obj.cells #[Value.int IntKind.i64 X, Value.int IntKind.u32 P] 35)).alloc (Obj.cells #[Value.string s, Value.int IntKind.i64 X, Value.int IntKind.u32 P] 37)
  have R4 := Bk.new (w3.alloc (Obj.cells #[Value.int IntKind.i64 X, Value.int IntKind.u32 P] 35)) 37 #[Value.string s, Value.int IntKind.i64 X, Value.int IntKind.u32 P]
  rw [World.size_alloc] at R4
  have K4 := hd (K3.out.trans (Kp.below (below2 w3 (Obj.cells #[Value.int IntKind.i64 X, Value.int IntKind.u32 P] 35) (Obj.cells #[Value.string s, Value.int IntKind.i64 X, Value.int IntKind.u32 P] 37))))
  have H4 := hd (H3.out.below (below2 w3 (Obj.cells #[Value.int IntKind.i64 X, Value.int IntKind.u32 P] 35) (Obj.cells #[Value.string s, Value.int IntKind.i64 X, Value.int IntKind.u32 P] 37)))
  generalize (w3.alloc (Obj.cells #[Value.int IntKind.i64 X, Value.int IntKind.u32 P] 35)).alloc (Obj.cells #[Value.string s, Value.int IntKind.i64 X, Value.int IntKind.u32 P] 37) = W at *
  have HRN : Hid (N ≠ w3.heap.size + 1) := hd (by have := L3.out; omega)
  generalize w3.heap.size + 1 = rb at *
  have HA := hd A4
  have HR := hd R4
  clear A4 R4 H3 K3 A3 L3
  have r0 := HR.out.cell 0
  have r1 := HR.out.cell 1
  have r2 := HR.out.cell 2
  simp at r0 r1 r2
  cases rt
  · have n0 := HA.out.cell 0
    have n1 := HA.out.cell 1
    have n2 := HA.out.cell 2
    simp at n0 n1 n2
    have f0 := HA.out.fz 0
    have f1 := HA.out.fz 1
    have f2 := HA.out.fz 2
    go_region
    all_goals
      go_wp2_with fail
      refine bodyPost_ret (res_rule rfl _ _ N _ rfl (((HA.out.drew.set 0 _).set 1 _).set 2 _) rfl) rfl ?_
      have hb := below_setCell (below_setCell (below_setCell (Below.refl G W.drew) ⟨N, 0, none⟩ (.string s) HNw.out.1) ⟨N, 1, none⟩ (.int .i64 X) HNw.out.1) ⟨N, 2, none⟩ (.int .u32 P) HNw.out.1
      have hw : Below G W W.drew := (Below.refl G W).drew
      refine ⟨by rw [HB.out]; rfl, H4.out.belowG (hw.trans hb), (((K4.out.trans (Kp.below (Below.refl _ W).drew)).set _ _ (fun h => absurd h (by simp; omega))).set _ _ (fun h => absurd h (by simp; omega))).set _ _ (fun h => absurd h (by simp; omega))⟩
  · obtain ⟨q, hq⟩ : ∃ q, okRule (s, X, P) = q := ⟨_, rfl⟩
    have HQ := hd hq
    have HBR : Hid (∀ w, Calls Tryz.prog 26 #[.agg #[.string s, .int .i64 X, .int .u32 P]] w fun e w' => VEnd w (.bool (!q)) e w') := hd fun w => by
      have h := badRule_any s X P w
      rwa [hq] at h
    clear hq
    have hne : N ≠ rb := HRN.out
    have hne2 : rb ≠ N := fun e => hne e.symm
    go_region_held3 (fun W => W.cell? ⟨rb, 0, none⟩ = some (.string s) ∧ W.cell? ⟨rb, 1, none⟩ = some (.int .i64 X) ∧ W.cell? ⟨rb, 2, none⟩ = some (.int .u32 P)) (first | exact ⟨by assumption, by assumption, by assumption⟩ | go_keep) (first | (go_at_call 26; refine (HBR.out _).mono ?_; rintro e w5 ⟨rfl, hk⟩; have A5 := HA.out.drew.keep hk; have n0 := A5.cell 0; have n1 := A5.cell 1; have n2 := A5.cell 2; simp at n0 n1 n2; have f0 := A5.fz 0; have f1 := A5.fz 1; have f2 := A5.fz 2; have R5 := HR.out.drew.keep hk; have s0 := R5.cell 0; have s1 := R5.cell 1; have s2 := R5.cell 2; simp at s0 s1 s2; have HK5 := hd hk; have HA5 := hd A5; clear A5 R5 hk) | fail)
    go_wp2_with fail
    refine bodyPost_ret (res_rule rfl _ _ N _ rfl (((HA5.out.set 0 _).set 1 _).set 2 _) rfl) rfl ?_
    have hb := below_setCell (below_setCell (below_setCell (Below.refl G w5) ⟨N, 0, none⟩ (.string s) HNw.out.1) ⟨N, 1, none⟩ (.int .i64 X) HNw.out.1) ⟨N, 2, none⟩ (.int .u32 P) HNw.out.1
    have hw : Below W.heap.size W w5 := below_below (Below.refl _ W).drew HK5.out
    refine ⟨by rw [HB.out, HQ.out]; rfl, (H4.out.below hw).belowG hb, (((K4.out.trans (Kp.below hw)).set _ _ (fun h => absurd h (by simp; omega))).set _ _ (fun h => absurd h (by simp; omega))).set _ _ (fun h => absurd h (by simp; omega))⟩

theorem rule_ok {w : World} {wb G : Nat} {ps : List ByteArray} (h : Ws w wb G ps) :
    Calls Tryz.prog 41 #[.pointer (some ⟨wb, 0, none⟩)] w fun e w' => WdEnd w wb G ps.tail.tail (.tuple #[rV (ruleP ps).1, .bool (ruleP ps).2]) e w' := by
  have hc := fun w (h : Ws w wb G ps.tail) => label_ok h
  unfold ruleP
  cases hr : rdL (hdW ps.tail) with
  | none =>
    rw [hr] at hc
    exact rule_core h 0 0 false false rfl hc
  | some q =>
    obtain ⟨x, p⟩ := q
    rw [hr] at hc
    refine rule_core h x p true (isNm (hdW ps)) ?_ hc
    obtain ⟨h7, _, _⟩ := rdL_some hr
    unfold okRule okL
    rw [decide_eq_true (show (0 : Int) ≤ (x : Int) by omega), decide_eq_true (show (x : Int) ≤ 7 by omega)]
    simp

theorem Kp.two {w w' : World} {wb rb : Nat} (k : Kp (fun k => k = wb) w w') : Kp (fun k => k = wb ∨ k = rb) w w' := ⟨k.os, k.tape, k.output, k.size, fun i hi hn => k.block i hi (fun e => hn (Or.inl e))⟩

/-- A number's text, or none. -/
def NumOK (l : List UInt8) (v : Int) (ok : Bool) : Prop :=
  (ok = true ∧ Lib.atoiAll l = .ok v ∧ Lib.itoa v = l) ∨ (ok = false ∧ ∀ x, Lib.atoiAll l = .ok x → Lib.itoa x ≠ l)
/-- How the closure that takes a number off ends. -/
def NumEnd (w : World) (wb rb G : Nat) (ps : List ByteArray) (r0 : Bool) (e : Ending) (w' : World) : Prop :=
  ∃ v ok, e = .returned (.int .i64 v) ∧ NumOK (hdW ps).data.toList v ok ∧ Ws w' wb G ps.tail ∧ Bk w' rb 4 #[.bool (r0 && ok)] ∧ Kp (fun k => k = wb ∨ k = rb) w w'

set_option maxRecDepth 100000 in
set_option maxHeartbeats 4000000 in
theorem number_ok {w : World} {wb rb bx G : Nat} {ps : List ByteArray} {r0 : Bool} (h : Ws w wb G ps) (hbx : Bk w bx 103 #[.pointer (some ⟨wb, 0, none⟩)]) (hrb : Bk w rb 4 #[.bool r0]) (hne : G ≤ rb) (h8 : 6 ≤ wb) (hg : Glob w) :
    Calls Tryz.prog 60 #[.pointer (some ⟨bx, 0, none⟩), .pointer (some ⟨rb, 0, none⟩)] w fun e w' => NumEnd w wb rb G ps r0 e w' := by
  have H := hd h
  have HS := hd (hdW_bd h)
  have HRB := hd hrb
  have HNE := hd hne
  have H8 := hd h8
  have HG := hd hg
  have HWG := hd h.1
  have HGG := hd h.2.1
  have b0 := hbx.cell 0
  simp at b0
  clear h hbx hrb hne h8 hg
  have HX := hd fun w (h : Ws w wb G ps) => next_ok h
  obtain ⟨s, hs⟩ : ∃ s, hdW ps = s := ⟨_, rfl⟩
  rw [hs] at HX HS
  have HSS := hd hs
  clear hs
  go_enter Tryz.func60, Tryz.ntmps60
  go_wp2_with fail
  refine (HX.out w H.out).mono ?_
  rintro e w2 ⟨rfl, h2, k2⟩
  have H2 := hd h2
  have K2 := hd k2
  have G2 := hd (HG.out.kp (B := 8) k2 (fun i hi => by rw [hi]; exact H8.out) (by have := HWG.out; have := HGG.out; have := H8.out; omega))
  have R2 := hd (HRB.out.kp k2 (by have := HNE.out; have := HWG.out; omega))
  clear h2 k2 b0
  go_wp2_with fail
  refine (atoi_ok s w2 (by have := HS.out; omega) G2.out).mono ?_
  rintro e w3 ⟨v, er, rfl, hk, hcase⟩
  have H3 := hd (H2.out.below hk)
  have K3 := hd (K2.out.trans (Kp.below hk))
  have G3 := hd (G2.out.keep hk)
  have R3 := hd (R2.out.keep hk)
  clear hk H2 K2 G2 R2
  rcases hcase with ⟨ha, rfl⟩ | ⟨ha, t, p, rfl⟩
  · have HA := hd ha
    have hvb := Lib.atoiAll_bounds ha
    clear ha
    go_wp2_with fail
    refine (itoa_ok v w3 hvb.1 hvb.2 G3.out).mono ?_
    rintro e w4 ⟨rfl, hk⟩
    have H4 := hd (H3.out.below hk)
    have K4 := hd (K3.out.trans (Kp.below hk))
    have R4 := hd (R3.out.keep hk)
    clear hk H3 K3 G3 R3 hvb
    obtain ⟨y, hy⟩ : ∃ y, tx v = y := ⟨_, rfl⟩
    rw [hy]
    have HY := hd hy
    clear hy
    by_cases he : y = s
    · have hq : (y.toList == s.toList) = true := by rw [he]; exact beq_self_eq_true _
      have HE := hd he
      clear he
      go_wp2_with fail
      go_ret
      refine ⟨v, true, rfl, ?_, H4.out, by rw [Bool.and_true]; exact R4.out, K4.out.two⟩
      rw [HSS.out]
      refine Or.inl ⟨rfl, HA.out, ?_⟩
      rw [← HE.out, ← HY.out]
      rfl
    · have hq : (y.toList == s.toList) = false := by
        rw [beq_eq_false_iff_ne, ByteArray.toList_eq, ByteArray.toList_eq]
        exact fun e => he (ba_ext e)
      have HE := hd he
      clear he
      have c0 := R4.out.cell 0
      have f0 := R4.out.fz 0
      simp at c0
      go_wp2_with fail
      go_ret
      refine ⟨v, false, rfl, ?_, ?_, ?_, K4.out.two.set _ _ (fun _ => Or.inr rfl)⟩
      · rw [HSS.out]
        refine Or.inr ⟨rfl, fun x hx e => ?_⟩
        rw [HA.out] at hx
        injection hx with hx
        subst hx
        apply HE.out
        rw [← HY.out]
        exact ba_ext e
      · exact H4.out.belowG (below_setCell (Below.refl G w4) _ _ HNE.out)
      · rw [Bool.and_false]
        exact R4.out.set 0 _
  · have HA := hd ha
    clear ha
    have c0 := R3.out.cell 0
    have f0 := R3.out.fz 0
    simp at c0
    go_wp2_with fail
    go_ret
    refine ⟨v, false, rfl, ?_, ?_, ?_, K3.out.two.set _ _ (fun _ => Or.inr rfl)⟩
    · rw [HSS.out]
      exact Or.inr ⟨rfl, fun x hx => absurd hx (HA.out x)⟩
    · exact H3.out.belowG (below_setCell (Below.refl G w3) _ _ HNE.out)
    · rw [Bool.and_false]
      exact R3.out.set 0 _

end Go.Proofs.YtcigbfjmnhogiabGreatDoor
