/- VeilOrder: whatever three labels are handed in: the law answers true, what is handed in reads as before; no conditions. -/
import Derived.Test.YtcgimbomandjfaaOx
import Derived.Test.YtcgimbomandjfaaLw
import Derived.Test.YtcgimbomandjfaaRows
import Derived.ProofKit
import Derived.OpenShut
import Derived.ShutString
import Derived.ChangeOld
namespace Go.Proofs.Ytcgimbomandjfaa.veilOrder
open Go.ChangeShapes Go.WideShapes Go.ChangeAt Go.RowKit
open Go.ChangeMaps (open_string shut_string)
set_option linter.unusedVariables false

theorem walk (x p y q z r : Int) (W : World) (wx : (Lit.int .i64 x).wf = true ∧ (Lit.int .u32 p).wf = true) (wy : (Lit.int .i64 y).wf = true ∧ (Lit.int .u32 q).wf = true) (wz : (Lit.int .i64 z).wf = true ∧ (Lit.int .u32 r).wf = true) :
    Calls Try.prog 5 #[.agg #[.int .i64 x, .int .u32 p], .agg #[.int .i64 y, .int .u32 q], .agg #[.int .i64 z, .int .u32 r]] W fun e W' => e = .returned (.bool true) ∧ Below W.heap.size W W' := by
  obtain ⟨hx, P, rfl⟩ := lab_wf wx
  obtain ⟨hy, Q, rfl⟩ := lab_wf wy
  obtain ⟨hz, R, rfl⟩ := lab_wf wz
  refine order_walk x _ y _ z _ (x % 8) (y % 8) (z % 8) (fl (x % 8) P (y % 8) Q) (fl (y % 8) Q (z % 8) R) (fl (x % 8) P (z % 8) R) (fl (y % 8) Q (x % 8) P) (decide (x % 8 = y % 8 ∧ P = Q)) W
    (hd fun w => near_any x _ w hx.1 hx.2) (hd fun w => near_any y _ w hy.1 hy.2) (hd fun w => near_any z _ w hz.1 hz.2)
    (hd fun w => ?_) (hd fun w => flows_b P Q (by omega) (by omega) w) (hd fun w => flows_b Q R (by omega) (by omega) w) (hd fun w => flows_b P R (by omega) (by omega) w) (hd fun w => flows_b Q P (by omega) (by omega) w)
    (hd fun w => ?_) (hd fun w => ?_) (hd fun w => eq24b _ _ P Q _ rfl w)
    (hd fun h1 h2 => decide_eq_true (fl_anti h1 h2)) (hd fun h1 h2 => fl_trans h1 h2)
  · have h := flows_b (x := x % 8) (y := x % 8) P P (by omega) (by omega) w
    rwa [fl_refl] at h
  · have h := flows_b (x := 0) (y := x % 8) 0#32 P (by omega) (by omega) w
    rwa [fl_zero P (by omega)] at h
  · have h := flows_b (x := x % 8) (y := 7) P 4294967295#32 (by omega) (by omega) w
    rwa [fl_top P (by omega)] at h


theorem own : ownKnob Try.prog.godebug = none := by kernel_rfl
theorem laidOut : laidOutB Try.prog = true := by kernel_rfl

set_option maxRecDepth 100000 in
theorem lifted (os : Os) (started : os.Started) (H : Type) (enc : TypeId × Value → H) :
    ReturnsInHanded {} Try.checked os 5 .any (Rows.veilOrderSpec.pre6 enc Try.prog Try.f5 Rows.veilOrderRow.domain false) (Rows.veilOrderSpec.post enc Try.prog Try.f5 false true false false) := by
  refine returnsInHanded_of_change (C := Try.checked) own started (by kernel_rfl) Try.func5
    (ChangeSpec.witness6 (enc := enc) (C := Try.checked) false ⟨#[], #[.agg #[.int .i64 0, .int .u32 0], .agg #[.int .i64 0, .int .u32 0], .agg #[.int .i64 0, .int .u32 0]], []⟩ 8 (by kernel_rfl) (by kernel_rfl) (by kernel_rfl) (by kernel_rfl)) ?_
  intro W base args ds gs before hval0 hW hcnd _
  have hval : ∀ (j : Nat) t v, Try.f5.params[j]? = some t → args[j]? = some v → Value.okWide Try.prog W .any base t v := hval0
  have hW' := hW
  obtain ⟨p, q, hA0, hV, rfl, hfz, hnd⟩ := hW
  have hA : DataW.TrodAll enc Try.prog W 0 (fun _ => true) true Try.f5.params.toList args.toList ds p := hA0
  rw [Try.params5] at hA hval
  obtain ⟨v0, vs0, d0, ds0, p0, q0, hargs, rfl, rfl, h0, r0⟩ := trodAll_cons hA
  obtain ⟨v1, vs1, d1, ds1, p1, q1, rfl, rfl, rfl, h1, r1⟩ := trodAll_cons r0
  obtain ⟨v2, vs2, d2, ds2, p2, q2, rfl, rfl, rfl, h2, r2⟩ := trodAll_cons r1
  obtain ⟨rfl, rfl, rfl⟩ := trodAll_nil r2
  obtain rfl : args = #[v0, v1, v2] := by cases args; simp_all
  obtain ⟨rfl, rfl⟩ := trodVars_none hV
  have k0 := h0
  have lt0 : ∀ x ∈ p0, x.block < W.heap.size := by obtain ⟨m, hm⟩ := k0; exact DataW.trod_lt m _ _ _ hm
  obtain ⟨x0_0, x0_1, rfl, w0⟩ := open_lab (hval 0 24 v0 rfl rfl) h0
  have k1 := h1
  have lt1 : ∀ x ∈ p1, x.block < W.heap.size := by obtain ⟨m, hm⟩ := k1; exact DataW.trod_lt m _ _ _ hm
  obtain ⟨x1_0, x1_1, rfl, w1⟩ := open_lab (hval 1 24 v1 rfl rfl) h1
  have k2 := h2
  have lt2 : ∀ x ∈ p2, x.block < W.heap.size := by obtain ⟨m, hm⟩ := k2; exact DataW.trod_lt m _ _ _ hm
  obtain ⟨x2_0, x2_1, rfl, w2⟩ := open_lab (hval 2 24 v2 rfl rfl) h2
  clear hA0 hval0
  refine (walk x0_0 x0_1 x1_0 x1_1 x2_0 x2_1 W w0 w1 w2).mono fun e W' ⟨he, bel⟩ => ?_
  subst he
  exact ⟨_, rfl, _, _, _, [], _, [], hW', trodAll_mk1 (shut_bool Try.underlying4 _), (trodAll_cons_mk (Below.trod laidOut (by kernel_rfl) (of_decide_eq_true (by kernel_rfl)) k0 bel lt0) (trodAll_cons_mk (Below.trod laidOut (by kernel_rfl) (of_decide_eq_true (by kernel_rfl)) k1 bel lt1) (trodAll_cons_mk (Below.trod laidOut (by kernel_rfl) (of_decide_eq_true (by kernel_rfl)) k2 bel lt2) trodAll_mk0))), rfl, bel.frame _, fun h => by cases h⟩

theorem over : Rows.veilOrderRow.holds Try.pinned (OpenSpec.ofChange Rows.veilOrderSpec) :=
  OpenClaim.holds_of_wide 5 Try.f5 rfl rfl rfl rfl rfl rfl rfl ⟨rfl, rfl, rfl, rfl, rfl⟩ rfl rfl rfl rfl rfl (by kernel_rfl) Try.func5 (by kernel_rfl)
    (of_decide_eq_true (by kernel_rfl)) (by unfold Func.isWrapper; first | (rw [if_pos (by decide +kernel)]; kernel_rfl) | (rw [if_neg (by decide +kernel)]; exact ⟨rfl, rfl⟩))
    (fun os started H enc _ => lifted os started H enc)

end Go.Proofs.Ytcgimbomandjfaa.veilOrder
namespace Go.Proofs.Ytcgimbomandjfaa

/-- The statement. -/
theorem veilOrder_proved : Rows.VeilOrderSaid := veilOrder.over
#print axioms veilOrder_proved
end Go.Proofs.Ytcgimbomandjfaa
