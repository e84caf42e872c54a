/- Take of an attribute: the function literal. -/
import Derived.Test.YteifaipbckhoiabTkv
import Derived.Test.YteifaipbckhoiabAt
import Derived.Test.YteifaipbckhoiabVo
namespace Go.Proofs.Yteifaipbckhoiab
open Go.RowKit
variable {RB XB : Nat}
set_option linter.unusedVariables false

theorem und35 : Try.prog.underlying 44 = some (.struct (Try.prog.fieldsOf 44)) := by kernel_rfl
theorem info35 : (Try.prog.info? 44).map (·.size) = some 6 := by kernel_rfl

/-- An attribute as a result. -/
theorem res_attr {fn : Func} {q : Tmp} (h : fn.results = #[.cell q 44]) (tmps : Array Value) (w : World) (g : Nat) (t : TypeId) (a b c d e f : Value) (fr : Nat × Nat)
    (hp : tmps.getD q undef = .pointer (some ⟨g, 0, none⟩)) (hg : w.heap[g]? = some (.cells #[a, b, c, d, e, f] t fr)) :
    (results fn tmps).run Try.prog w = .ok (.agg #[a, b, c, d, e, f]) w :=
  results_cell_row (P := Try.prog) (fn := fn) (p := q) (ty := 44) h tmps w g t #[a, b, c, d, e, f] fr _ hp hg und35 rfl info35

theorem Bk.set6 {w : World} {g : Nat} {t : TypeId} {a b c d e f : Value} (h : Bk w g t #[a, b, c, d, e, f]) (u v x y z q : Value) : Bk ((((((w.setCell ⟨g, 0, none⟩ u).setCell ⟨g, 1, none⟩ v).setCell ⟨g, 2, none⟩ x).setCell ⟨g, 3, none⟩ y).setCell ⟨g, 4, none⟩ z).setCell ⟨g, 5, none⟩ q) g t #[u, v, x, y, z, q] :=
  (((((h.set 0 u).set 1 v).set 2 x).set 3 y).set 4 z).set 5 q

/-- How the taking of an attribute ends. -/
def TakA (RB : Nat) (w : World) (rb : Nat) (r : AttrD × List Int × Int) (e : Ending) (w' : World) : Prop :=
  e = .returned (A6 r.1) ∧ Rd RB w' rb r.2.1 r.2.2 ∧ Kp (fun b => b = rb) w w'

/-- Ahead of the value's taking, or behind it. -/
def Step (RB : Nat) (rb : Nat) (l2 : List Int) (e2 : Int) (u : Value) (l3 : List Int) (e3 : Int) (v : Value) (W : World) : Prop :=
  (v = undef ∧ Rd RB W rb l2 e2) ∨ (v = u ∧ Rd RB W rb l3 e3)
theorem Step.keep {rb : Nat} {l2 l3 : List Int} {e2 e3 : Int} {u v : Value} {W : World} (h : Step RB rb l2 e2 u l3 e3 v W) : Step RB rb l2 e2 u l3 e3 v W := h

set_option maxRecDepth 100000 in
set_option maxHeartbeats 8000000 in
theorem TakeA_is {w : World} {rb bb : Nat} {l : List Int} {e0 : Int} (h : Rd RB w rb l e0) (hle : RB ≤ rb) (hl : Byt l) (hbb : w.cell? ⟨bb, 0, none⟩ = some (.pointer (some ⟨rb, 0, none⟩))) (hne : bb ≠ rb) :
    Calls Try.prog 69 #[.pointer (some ⟨bb, 0, none⟩)] w fun e w' => TakA RB w rb (takeA l e0) e w' := by
  obtain ⟨r, hr⟩ : ∃ r, takeA l e0 = r := ⟨_, rfl⟩
  obtain ⟨bs, l1, e1, h1⟩ : ∃ bs l1 e1, bStep (textR 24 l) l e0 = (bs, l1, e1) := ⟨_, _, _, rfl⟩
  obtain ⟨x, p, l2, e2, h2⟩ : ∃ x p l2 e2, takeL l1 e1 = (x, p, l2, e2) := ⟨_, _, _, _, rfl⟩
  obtain ⟨⟨k, n, b⟩, l3, e3, h3⟩ : ∃ v l3 e3, takeV l2 e2 = (v, l3, e3) := ⟨_, _, _, rfl⟩
  rw [hr]
  unfold takeA at hr
  rw [h1] at hr
  simp only at hr
  rw [h2] at hr
  simp only at hr
  rw [h3] at hr
  simp only at hr
  have hl1 := (t_byt hl h1).1
  have hl2 := takeL_byt hl1 h2
  have HL1 := hd hl1; have HL2 := hd hl2
  have HR := hd hr; have H := hd h; have H1 := hd h1; have H2 := hd h2; have H3 := hd h3; have HLE := hd hle
  have HBL := hd (World.block_lt_of_cell? w _ hbb)
  have HBB := hd hbb; have HNE := hd hne
  clear hr h h1 h2 h3 hle hl hl1 hl2 hbb hne
  generalize hsm : strOfNums bs = s at *
  have HSM := hd hsm
  clear hsm
  have b00 := (below_cell (below1 w (Obj.cells #[Value.string ⟨#[]⟩, Value.int IntKind.i64 0, Value.int IntKind.u32 0, Value.int IntKind.i64 0, Value.int IntKind.i64 0, Value.string ⟨#[]⟩] 44)) HBL.out).trans HBB.out
  go_enter Try.func69, Try.ntmps69
  go_wp2_with fail
  clear b00
  have A := Bk.new w 44 #[Value.string ⟨#[]⟩, Value.int IntKind.i64 0, Value.int IntKind.u32 0, Value.int IntKind.i64 0, Value.int IntKind.i64 0, Value.string ⟨#[]⟩]
  have NB := below1 w (Obj.cells #[Value.string ⟨#[]⟩, Value.int IntKind.i64 0, Value.int IntKind.u32 0, Value.int IntKind.i64 0, Value.int IntKind.i64 0, Value.string ⟨#[]⟩] 44)
  have R0 := hd (H.out.keep NB)
  have K0 := hd (kpB NB (fun b => b = rb))
  have HG : Hid (rb < w.heap.size) := hd H.out.lt
  have b0 := (below_cell NB HBL.out).trans HBB.out
  generalize hg : w.heap.size = g at *
  have HS := hd hg
  clear hg H NB
  generalize w.alloc (Obj.cells #[Value.string ⟨#[]⟩, Value.int IntKind.i64 0, Value.int IntKind.u32 0, Value.int IntKind.i64 0, Value.int IntKind.i64 0, Value.string ⟨#[]⟩] 44) = w1 at *
  refine (RText_is R0.out 24 H1.out s HSM.out).mono ?_
  rintro e w2 ⟨rfl, hr2, hk2⟩
  have R2 := hd hr2
  have K2 := hd (K0.out.trans hk2)
  have A2 := hd (hk2.bk A (by have := HG.out; omega))
  clear A R0 K0 hr2 hk2 b0
  have b0 := (K2.out.cell (p := ⟨bb, 0, none⟩) (show bb < w.heap.size by rw [HS.out]; exact HBL.out) HNE.out).trans HBB.out
  go_wp2_with fail
  obtain ⟨n1, j1, f1, q1⟩ : ∃ n1 j1 f1, uStep 9007199254740991 l1 e1 = (n1, j1, f1) := ⟨_, _, _, rfl⟩
  obtain ⟨n2, j2, f2, q2⟩ : ∃ n2 j2 f2, uStep 9007199254740991 j1 f1 = (n2, j2, f2) := ⟨_, _, _, rfl⟩
  have ht : tkLab n1 n2 j2 f2 = (x, p, l2, e2) := by
    have := H2.out
    unfold takeL at this
    rw [q1] at this
    simp only at this
    rw [q2] at this
    exact this
  refine (Lab_is R2.out HLE.out HL1.out q1 q2).mono ?_
  rw [ht]
  rintro e w3 ⟨rfl, hr3, hk3⟩
  simp only at hr3 ⊢
  have R3 := hd hr3
  have K3 := hd (K2.out.trans hk3)
  have A3 := hd (hk3.bk A2.out (by have := HG.out; omega))
  clear A2 R2 K2 hr3 hk3 b0 ht q1 q2
  go_wp2_with fail
  have NB := below1 w3 (Obj.cells #[Value.int IntKind.i64 x, Value.int IntKind.u32 p] 40)
  have LB := Lb.new w3 x p
  have R4 := hd (R3.out.keep NB)
  have K4 := hd (K3.out.trans (kpB NB (fun b => b = rb)))
  have A4 := hd (A3.out.keep NB)
  have HGL : Hid (g < w3.heap.size ∧ rb < w3.heap.size) := hd ⟨A3.out.lt, R3.out.lt⟩
  generalize w3.heap.size = gl at *
  generalize w3.alloc (Obj.cells #[Value.int IntKind.i64 x, Value.int IntKind.u32 p] 40) = w4 at *
  have HLB := hd LB
  have B4 := hd ((K4.out.cell (p := ⟨bb, 0, none⟩) (show bb < w.heap.size by rw [HS.out]; exact HBL.out) HNE.out).trans HBB.out)
  have B4L := hd (World.block_lt_of_cell? w4 _ B4.out)
  clear LB NB R3 K3 A3
  refine wp_region_each 5 (fun W W' => Kp (fun b => b = rb) W W') (fun i v W => match i with | 0 => v = Value.string s | 1 => v = Value.agg #[Value.int IntKind.i64 x, Value.int IntKind.u32 p] | 2 => v = Value.pointer (some ⟨rb, 0, none⟩) | 3 => v = Value.agg #[Value.int IntKind.i64 k, Value.int IntKind.i64 n, Value.string b] | 4 => v = Value.agg #[Value.string s, Value.int IntKind.i64 x, Value.int IntKind.u32 p, Value.int IntKind.i64 k, Value.int IntKind.i64 n, Value.string b] | _ => True) (fun vs W => Kp (fun b => b = rb) w4 W ∧ Step RB rb l2 e2 (Value.agg #[Value.int IntKind.i64 k, Value.int IntKind.i64 n, Value.string b]) l3 e3 (vs.getD 3 undef) W) (by kernel_rfl) (by kernel_rfl) (fun j v W W' hE h => by
    match j with
    | 0 => exact h
    | 1 => exact h
    | 2 => exact h
    | 3 => exact h
    | 4 => exact h
    | _ + 5 => trivial) (⟨(Kp.refl _ _).drew, Or.inl ⟨rfl, R4.out.keep (Below.refl _ _).drew⟩⟩) ?_ ?_
  · simp only [List.take_succ_cons, List.take_zero]
    refine Each.cons (fun vs W hl => ?_) ?_
    · apply with5 hl
      clear hl vs
      intro v0 v1 v2 v3 v4 hg hnew hd K hK
      clear hd
      clear hnew
      rw [if_pos (by kernel_rfl)]
      simp only [puts, Act.put, List.setIfInBounds_toArray, List.set_cons_zero, List.set_cons_succ] at hK ⊢
      go_simp
      exact hK _ _ (Kp.refl _ _) rfl hg
    refine Each.cons (fun vs W hl => ?_) ?_
    · apply with5 hl
      clear hl vs
      intro v0 v1 v2 v3 v4 hg hnew hd K hK
      clear hd
      clear hnew
      rw [if_pos (by kernel_rfl)]
      simp only [puts, Act.put, List.setIfInBounds_toArray, List.set_cons_zero, List.set_cons_succ] at hK ⊢
      have lb := hg.1.old HLB.out (by have := HGL.out; omega)
      have c0 := lb.c0
      have c1 := lb.c1
      go_simp
      exact hK _ _ (Kp.refl _ _) rfl hg
    refine Each.cons (fun vs W hl => ?_) ?_
    · apply with5 hl
      clear hl vs
      intro v0 v1 v2 v3 v4 hg hnew hd K hK
      clear hd
      clear hnew
      rw [if_pos (by kernel_rfl)]
      simp only [puts, Act.put, List.setIfInBounds_toArray, List.set_cons_zero, List.set_cons_succ] at hK ⊢
      have c0 := (hg.1.cell (p := ⟨bb, 0, none⟩) B4L.out HNE.out).trans B4.out
      go_simp
      exact hK _ _ (Kp.refl _ _) rfl hg
    refine Each.cons (fun vs W hl => ?_) ?_
    · apply with5 hl
      clear hl vs
      intro v0 v1 v2 v3 v4 hg hnew hd K hK
      have d2 : v2 = Value.pointer (some ⟨rb, 0, none⟩) := hd 2 v2 (by kernel_rfl) rfl
      subst d2
      have n3 : v3 = undef := by injection hnew
      clear hd hnew
      rw [if_pos (by kernel_rfl)]
      simp only [puts, Act.put, List.setIfInBounds_toArray, List.set_cons_zero, List.set_cons_succ] at hK ⊢
      obtain ⟨hg1, hg2⟩ := hg
      have hr4 : Rd RB W rb l2 e2 := by
        rcases hg2 with ⟨_, hh⟩ | ⟨hh, _⟩
        · exact hh
        · exact absurd (n3.symm.trans hh) (by intro hh; cases hh)
      go_simp
      refine (TakeV_is hr4 HLE.out HL2.out).mono ?_
      rw [H3.out]
      rintro e w' ⟨rfl, hr5, hk5⟩
      exact hK _ _ hk5 rfl ⟨hg1.trans hk5, Or.inr ⟨rfl, hr5⟩⟩
    refine Each.cons (fun vs W hl => ?_) ?_
    · apply with5 hl
      clear hl vs
      intro v0 v1 v2 v3 v4 hg hnew hd K hK
      have d0 : v0 = Value.string s := hd 0 v0 (by kernel_rfl) rfl
      subst d0
      have d1 : v1 = Value.agg #[Value.int IntKind.i64 x, Value.int IntKind.u32 p] := hd 1 v1 (by kernel_rfl) rfl
      subst d1
      have d3 : v3 = Value.agg #[Value.int IntKind.i64 k, Value.int IntKind.i64 n, Value.string b] := hd 3 v3 (by kernel_rfl) rfl
      subst d3
      clear hd
      clear hnew
      rw [if_pos (by kernel_rfl)]
      simp only [puts, Act.put, List.setIfInBounds_toArray, List.set_cons_zero, List.set_cons_succ] at hK ⊢
      go_simp
      exact hK _ _ (Kp.refl _ _) rfl hg
    exact Each.nil
  · intro vs W hl
    apply with5 hl
    clear hl vs
    intro v0 v1 v2 v3 v4 hg hall
    have d0 : v0 = Value.string s := hall 0 v0 rfl
    subst d0
    have d1 : v1 = Value.agg #[Value.int IntKind.i64 x, Value.int IntKind.u32 p] := hall 1 v1 rfl
    subst d1
    have d2 : v2 = Value.pointer (some ⟨rb, 0, none⟩) := hall 2 v2 rfl
    subst d2
    have d3 : v3 = Value.agg #[Value.int IntKind.i64 k, Value.int IntKind.i64 n, Value.string b] := hall 3 v3 rfl
    subst d3
    have d4 : v4 = Value.agg #[Value.string s, Value.int IntKind.i64 x, Value.int IntKind.u32 p, Value.int IntKind.i64 k, Value.int IntKind.i64 n, Value.string b] := hall 4 v4 rfl
    subst d4
    clear hall
    simp only [puts, Act.put, List.setIfInBounds_toArray, List.set_cons_zero, List.set_cons_succ, List.take_succ_cons, List.take_zero, List.drop_succ_cons, List.drop_zero]
    obtain ⟨hg1, hg2⟩ := hg
    have R5 : Rd RB W rb l3 e3 := by
      rcases hg2 with ⟨hh, _⟩ | ⟨_, hh⟩
      · exact absurd hh (by intro hh; cases hh)
      · exact hh
    clear hg2
    have A5 := hg1.bk A4.out (by have := HG.out; omega)
    have K5 := K4.out.trans hg1
    have a0 := A5.cell 0
    have a1 := A5.cell 1
    have a2 := A5.cell 2
    have a3 := A5.cell 3
    have a4 := A5.cell 4
    have a5 := A5.cell 5
    simp at a0 a1 a2 a3 a4 a5
    have f0 := A5.fz 0
    have f1 := A5.fz 1
    have f2 := A5.fz 2
    have f3 := A5.fz 3
    have f4 := A5.fz 4
    have f5 := A5.fz 5
    have R6 := hd R5
    have K6 := hd K5
    have A6_ := hd A5
    clear R5 K5 A5 hg1 R4 K4 A4 HLB B4
    go_wp2_with fail
    have h0 := HG.out
    have hs := HS.out
    have hle := HLE.out
    subst hs
    have hf := A6_.out.set6 (.string s) (.int .i64 x) (.int .u32 p) (.int .i64 k) (.int .i64 n) (.string b)
    refine bodyPost_ret (res_attr rfl _ _ w.heap.size _ _ _ _ _ _ _ _ rfl hf) rfl ?_
    have hr := HR.out
    subst hr
    refine ⟨rfl, ?_, ?_⟩
    · exact ((((((R6.out.setO w.heap.size 0 _ (by omega) (by omega) hle).setO w.heap.size 1 _ (by omega) (by omega) hle).setO w.heap.size 2 _ (by omega) (by omega) hle).setO w.heap.size 3 _ (by omega) (by omega) hle).setO w.heap.size 4 _ (by omega) (by omega) hle).setO w.heap.size 5 _ (by omega) (by omega) hle)
    · have nn : ∀ i : Nat, ∀ v : Value, ∀ W : World, Kp (fun b => b = rb) w W → Kp (fun b => b = rb) w (W.setCell ⟨w.heap.size, i, none⟩ v) := fun i v W hk => hk.setCell ⟨w.heap.size, i, none⟩ v (fun h => absurd h (Nat.lt_irrefl _))
      exact nn 5 _ _ (nn 4 _ _ (nn 3 _ _ (nn 2 _ _ (nn 1 _ _ (nn 0 _ _ K6.out)))))

end Go.Proofs.Yteifaipbckhoiab
