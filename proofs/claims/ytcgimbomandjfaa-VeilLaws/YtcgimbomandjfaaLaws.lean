/- VeilLaws: whatever three labels are handed in: the law answers true, what is handed in reads as before; no conditions. -/
import Derived.Test.YtcgimbomandjfaaLa
import Derived.Test.YtcgimbomandjfaaLw
import Derived.Test.YtcgimbomandjfaaPm
import Derived.Test.YtcgimbomandjfaaLs
import Derived.Test.YtcgimbomandjfaaRows
import Derived.ProofKit
import Derived.OpenShut
import Derived.ShutString
import Derived.ChangeOld
namespace Go.Proofs.Ytcgimbomandjfaa.veilLaws
open Go.ChangeShapes Go.WideShapes Go.ChangeAt Go.RowKit
open Go.ChangeMaps (open_string shut_string)
set_option linter.unusedVariables false

theorem walk (x p y q z r : Int) (W : World) (wx : (Lit.int .i64 x).wf = true ∧ (Lit.int .u32 p).wf = true) (wy : (Lit.int .i64 y).wf = true ∧ (Lit.int .u32 q).wf = true) (wz : (Lit.int .i64 z).wf = true ∧ (Lit.int .u32 r).wf = true) :
    Calls Try.prog 7 #[.agg #[.int .i64 x, .int .u32 p], .agg #[.int .i64 y, .int .u32 q], .agg #[.int .i64 z, .int .u32 r]] W fun e W' => e = .returned (.bool true) ∧ Below W.heap.size W W' := by
  obtain ⟨hx, P, rfl⟩ := lab_wf wx
  obtain ⟨hy, Q, rfl⟩ := lab_wf wy
  obtain ⟨hz, R, rfl⟩ := lab_wf wz
  have h1 : 0 ≤ x % 8 ∧ x % 8 ≤ 7 := by omega
  have h2 : 0 ≤ y % 8 ∧ y % 8 ≤ 7 := by omega
  have h3 : 0 ≤ z % 8 ∧ z % 8 ≤ 7 := by omega
  have nx := fun w => near_any x (P.toNat : Int) w hx.1 hx.2
  have ny := fun w => near_any y (Q.toNat : Int) w hy.1 hy.2
  have nz := fun w => near_any z (R.toNat : Int) w hz.1 hz.2
  generalize x % 8 = a at *
  generalize y % 8 = b at *
  generalize z % 8 = c at *
  have hab : 0 ≤ max a b ∧ max a b ≤ 7 := by omega
  have hbc : 0 ≤ max b c ∧ max b c ≤ 7 := by omega
  have mab : 0 ≤ min a b ∧ min a b ≤ 7 := by omega
  have mbc : 0 ≤ min b c ∧ min b c ≤ 7 := by omega
  have mac : 0 ≤ min a c ∧ min a c ≤ 7 := by omega
  refine laws_walk x _ y _ z _ a b c (max a b) ((P ||| Q).toNat : Int) (max b c) ((Q ||| R).toNat : Int) (max (max a b) c) ((P ||| Q ||| R).toNat : Int) (min a b) ((P &&& Q).toNat : Int) (min b c) ((Q &&& R).toNat : Int) (min a c) ((P &&& R).toNat : Int) (min (min a b) c) ((P &&& Q &&& R).toNat : Int) (min a (max b c)) ((P &&& (Q ||| R)).toNat : Int) W
    (hd nx) (hd ny) (hd nz)
    (hd fun w v h => lab_to (join_b2 P Q h1 h2 h) (by omega) rfl)
    (hd fun w v h => lab_to (join_b2 Q P h2 h1 h) (by omega) (BitVec.or_comm _ _))
    (hd fun w v h => lab_to (join_b2 (P ||| Q) R hab h3 h) (by omega) rfl)
    (hd fun w v h => lab_to (join_b3 P Q R h1 h2 h3 h) (by omega) rfl)
    (hd fun w v h => lab_to (join_b3 R Q P h3 h2 h1 h) (by omega) (by apply BitVec.eq_of_getLsbD_eq; intro i hi; simp only [BitVec.getLsbD_or]; cases P.getLsbD i <;> cases Q.getLsbD i <;> cases R.getLsbD i <;> rfl))
    (hd fun w v h => lab_to (join_b2 Q R h2 h3 h) (by omega) rfl)
    (hd fun w v h => lab_to (join_b2 P (Q ||| R) h1 hbc h) (by omega) (BitVec.or_assoc _ _ _).symm)
    (hd fun w v h => lab_to (join_b2 P (P &&& Q) h1 mab h) (by omega) (by apply BitVec.eq_of_getLsbD_eq; intro i hi; simp only [BitVec.getLsbD_or, BitVec.getLsbD_and]; cases P.getLsbD i <;> cases Q.getLsbD i <;> cases R.getLsbD i <;> rfl))
    (hd fun w v h => lab_to (join_b2 P P h1 h1 h) (by omega) BitVec.or_self)
    (hd fun w v h => join_b1 P h1 h)
    (hd fun w v h => join_b0 h)
    (hd fun w v h => lab_to (join_b2 (P &&& Q) (P &&& R) mab mac h) (by omega) (by apply BitVec.eq_of_getLsbD_eq; intro i hi; simp only [BitVec.getLsbD_or, BitVec.getLsbD_and]; cases P.getLsbD i <;> cases Q.getLsbD i <;> cases R.getLsbD i <;> rfl))
    (hd fun w => lab_to (meet_b P Q h1 h2 w) (by omega) rfl)
    (hd fun w => lab_to (meet_b Q P h2 h1 w) (by omega) (BitVec.and_comm _ _))
    (hd fun w => lab_to (meet_b (P &&& Q) R mab h3 w) (by omega) rfl)
    (hd fun w => lab_to (meet_b Q R h2 h3 w) (by omega) rfl)
    (hd fun w => lab_to (meet_b P (Q &&& R) h1 mbc w) (by omega) (BitVec.and_assoc _ _ _).symm)
    (hd fun w => lab_to (meet_b P (P ||| Q) h1 hab w) (by omega) (by apply BitVec.eq_of_getLsbD_eq; intro i hi; simp only [BitVec.getLsbD_or, BitVec.getLsbD_and]; cases P.getLsbD i <;> cases Q.getLsbD i <;> cases R.getLsbD i <;> rfl))
    (hd fun w => lab_to (meet_b P P h1 h1 w) (by omega) BitVec.and_self)
    (hd fun w => lab_to (meet_b P (Q ||| R) h1 hbc w) (by omega) rfl)
    (hd fun w => lab_to (meet_b P R h1 h3 w) (by omega) rfl)


theorem own : ownKnob Try.prog.godebug = none := by kernel_rfl
theorem laidOut : laidOutB Try.prog = true := by kernel_rfl

set_option maxRecDepth 100000 in
theorem lifted (os : Os) (started : os.Started) (H : Type) (enc : TypeId × Value → H) :
    ReturnsInHanded {} Try.checked os 7 .any (Rows.veilLawsSpec.pre6 enc Try.prog Try.f7 Rows.veilLawsRow.domain false) (Rows.veilLawsSpec.post enc Try.prog Try.f7 false true false false) := by
  refine returnsInHanded_of_change (C := Try.checked) own started (by kernel_rfl) Try.func7
    (ChangeSpec.witness6 (enc := enc) (C := Try.checked) false ⟨#[], #[.agg #[.int .i64 0, .int .u32 0], .agg #[.int .i64 0, .int .u32 0], .agg #[.int .i64 0, .int .u32 0]], []⟩ 8 (by kernel_rfl) (by kernel_rfl) (by kernel_rfl) (by kernel_rfl)) ?_
  intro W base args ds gs before hval0 hW hcnd _
  have hval : ∀ (j : Nat) t v, Try.f7.params[j]? = some t → args[j]? = some v → Value.okWide Try.prog W .any base t v := hval0
  have hW' := hW
  obtain ⟨p, q, hA0, hV, rfl, hfz, hnd⟩ := hW
  have hA : DataW.TrodAll enc Try.prog W 0 (fun _ => true) true Try.f7.params.toList args.toList ds p := hA0
  rw [Try.params7] at hA hval
  obtain ⟨v0, vs0, d0, ds0, p0, q0, hargs, rfl, rfl, h0, r0⟩ := trodAll_cons hA
  obtain ⟨v1, vs1, d1, ds1, p1, q1, rfl, rfl, rfl, h1, r1⟩ := trodAll_cons r0
  obtain ⟨v2, vs2, d2, ds2, p2, q2, rfl, rfl, rfl, h2, r2⟩ := trodAll_cons r1
  obtain ⟨rfl, rfl, rfl⟩ := trodAll_nil r2
  obtain rfl : args = #[v0, v1, v2] := by cases args; simp_all
  obtain ⟨rfl, rfl⟩ := trodVars_none hV
  have k0 := h0
  have lt0 : ∀ x ∈ p0, x.block < W.heap.size := by obtain ⟨m, hm⟩ := k0; exact DataW.trod_lt m _ _ _ hm
  obtain ⟨x0_0, x0_1, rfl, w0⟩ := open_lab (hval 0 24 v0 rfl rfl) h0
  have k1 := h1
  have lt1 : ∀ x ∈ p1, x.block < W.heap.size := by obtain ⟨m, hm⟩ := k1; exact DataW.trod_lt m _ _ _ hm
  obtain ⟨x1_0, x1_1, rfl, w1⟩ := open_lab (hval 1 24 v1 rfl rfl) h1
  have k2 := h2
  have lt2 : ∀ x ∈ p2, x.block < W.heap.size := by obtain ⟨m, hm⟩ := k2; exact DataW.trod_lt m _ _ _ hm
  obtain ⟨x2_0, x2_1, rfl, w2⟩ := open_lab (hval 2 24 v2 rfl rfl) h2
  clear hA0 hval0
  refine (walk x0_0 x0_1 x1_0 x1_1 x2_0 x2_1 W w0 w1 w2).mono fun e W' ⟨he, bel⟩ => ?_
  subst he
  exact ⟨_, rfl, _, _, _, [], _, [], hW', trodAll_mk1 (shut_bool Try.underlying4 _), (trodAll_cons_mk (Below.trod laidOut (by kernel_rfl) (of_decide_eq_true (by kernel_rfl)) k0 bel lt0) (trodAll_cons_mk (Below.trod laidOut (by kernel_rfl) (of_decide_eq_true (by kernel_rfl)) k1 bel lt1) (trodAll_cons_mk (Below.trod laidOut (by kernel_rfl) (of_decide_eq_true (by kernel_rfl)) k2 bel lt2) trodAll_mk0))), rfl, bel.frame _, fun h => by cases h⟩

theorem over : Rows.veilLawsRow.holds Try.pinned (OpenSpec.ofChange Rows.veilLawsSpec) :=
  OpenClaim.holds_of_wide 7 Try.f7 rfl rfl rfl rfl rfl rfl rfl ⟨rfl, rfl, rfl, rfl, rfl⟩ rfl rfl rfl rfl rfl (by kernel_rfl) Try.func7 (by kernel_rfl)
    (of_decide_eq_true (by kernel_rfl)) (by unfold Func.isWrapper; first | (rw [if_pos (by decide +kernel)]; kernel_rfl) | (rw [if_neg (by decide +kernel)]; exact ⟨rfl, rfl⟩))
    (fun os started H enc _ => lifted os started H enc)

end Go.Proofs.Ytcgimbomandjfaa.veilLaws
namespace Go.Proofs.Ytcgimbomandjfaa

/-- The statement. -/
theorem veilLaws_proved : Rows.VeilLawsSaid := veilLaws.over
#print axioms veilLaws_proved
end Go.Proofs.Ytcgimbomandjfaa
