/- VeilTells: whatever two labels and whatever list of labels are handed in: the law answers true, what is handed in reads as before; no conditions. -/
import Derived.Test.YtcgimbomandjfaaVt
import Derived.Test.YtcgimbomandjfaaLq
import Derived.Test.YtcgimbomandjfaaRows
import Derived.ProofKit
import Derived.OpenShut
import Derived.ShutString
import Derived.ChangeOld
import Derived.SizedLaws
namespace Go.Proofs.Ytcgimbomandjfaa.veilTells
open Go.ChangeShapes Go.WideShapes Go.ChangeAt Go.RowKit
open Go.ChangeMaps (open_string shut_string)
set_option linter.unusedVariables false

theorem walk (x p y q : Int) (a : Option Addr) (n cap : Nat) (ls : List (Int × Int)) (W : World) (wx : (Lit.int .i64 x).wf = true ∧ (Lit.int .u32 p).wf = true) (wy : (Lit.int .i64 y).wf = true ∧ (Lit.int .u32 q).wf = true) (hl : Ls W (.slice a n cap) ls ∧ Regs ls) :
    Calls Try.prog 3 #[.agg #[.int .i64 x, .int .u32 p], .agg #[.int .i64 y, .int .u32 q], .slice a n cap] W fun e W' => e = .returned (.bool true) ∧ Below W.heap.size W W' := by
  obtain ⟨hx, P, rfl⟩ := lab_wf wx
  obtain ⟨hy, Q, rfl⟩ := lab_wf wy
  have hr : Regs [(x, (P.toNat : Int)), (y, (Q.toNat : Int))] := fun l h => by
    simp only [List.mem_cons, List.not_mem_nil, or_false] at h
    rcases h with rfl | rfl
    · exact ⟨P, rfl⟩
    · exact ⟨Q, rfl⟩
  refine tells_walk x _ y _ _ _ (if okL x && okL y then min x y else 0) (if okL x && okL y then ((P &&& Q).toNat : Int) else 0) _ _ _ (okL x && okL y && fl x P y Q) a n cap ls W hl.1
    (hd fun w => check_any x _ w) (hd fun w => rcheck_any x _ w) (hd fun w => flows_is _ _ _ _ w _ (by rw [bandNot0]; unfold fl; rw [Bool.and_assoc])) (hd fun w => rflows_b x y P Q w)
    (hd fun w v h => join_any h) (hd fun w v h => rjoinAll_any h hr) (hd fun w v h => join_any h) (hd fun w v h => rjoinAll_any h hl.2)
    (hd fun w => meet_is _ _ _ _ w _ _ rfl (by rw [band])) (hd fun w => ?_)
  have h := rmeet_b x y P Q w
  cases ho : (okL x && okL y)
  all_goals
    rw [ho] at h
    exact h

theorem own : ownKnob Try.prog.godebug = none := by kernel_rfl
theorem laidOut : laidOutB Try.prog = true := by kernel_rfl
theorem bytes5 : Try.prog.bytesOf 5 = 1 := by kernel_rfl

set_option maxRecDepth 100000 in
theorem lifted (os : Os) (started : os.Started) (H : Type) (enc : TypeId × Value → H) :
    ReturnsInHanded {} Try.checked os 3 .any (Rows.veilTellsSpec.pre6 enc Try.prog Try.f3 Rows.veilTellsRow.domain false) (Rows.veilTellsSpec.post enc Try.prog Try.f3 false true false false) := by
  refine returnsInHanded_of_change_sized (C := Try.checked) own started (by kernel_rfl) Try.func3
    (ChangeSpec.witness6 (enc := enc) (C := Try.checked) false ⟨#[], #[.agg #[.int .i64 0, .int .u32 0], .agg #[.int .i64 0, .int .u32 0], .slice none 0 0], []⟩ 8 (by kernel_rfl) (by kernel_rfl) (by kernel_rfl) (by kernel_rfl)) ?_
  intro W base args ds gs before hval0 hW hcnd hsz0 _
  have hsz : (DataW.weightsEach Try.prog (Try.f3.params.toList ++ Rows.veilTellsSpec.plain.varTypes Try.prog) (ds ++ gs)).all (· ≤ reachBytes) = true := hsz0
  have hval : ∀ (j : Nat) t v, Try.f3.params[j]? = some t → args[j]? = some v → Value.okWide Try.prog W .any base t v := hval0
  have hW' := hW
  obtain ⟨p, q, hA0, hV, rfl, hfz, hnd⟩ := hW
  have hA : DataW.TrodAll enc Try.prog W 0 (fun _ => true) true Try.f3.params.toList args.toList ds p := hA0
  rw [Try.params3] at hA hval hsz
  obtain ⟨v0, vs0, d0, ds0, p0, q0, hargs, rfl, rfl, h0, r0⟩ := trodAll_cons hA
  obtain ⟨v1, vs1, d1, ds1, p1, q1, rfl, rfl, rfl, h1, r1⟩ := trodAll_cons r0
  obtain ⟨v2, vs2, d2, ds2, p2, q2, rfl, rfl, rfl, h2, r2⟩ := trodAll_cons r1
  obtain ⟨rfl, rfl, rfl⟩ := trodAll_nil r2
  obtain rfl : args = #[v0, v1, v2] := by cases args; simp_all
  obtain ⟨rfl, rfl⟩ := trodVars_none hV
  have k0 := h0
  have lt0 : ∀ x ∈ p0, x.block < W.heap.size := by obtain ⟨m, hm⟩ := k0; exact DataW.trod_lt m _ _ _ hm
  obtain ⟨x0_0, x0_1, rfl, w0⟩ := open_lab (hval 0 24 v0 rfl rfl) h0
  have k1 := h1
  have lt1 : ∀ x ∈ p1, x.block < W.heap.size := by obtain ⟨m, hm⟩ := k1; exact DataW.trod_lt m _ _ _ hm
  obtain ⟨x1_0, x1_1, rfl, w1⟩ := open_lab (hval 1 24 v1 rfl rfl) h1
  obtain ⟨a2, len2, cap2, rfl⟩ := okWide_slice Try.underlying25 (hval 2 25 v2 rfl rfl)
  have k2 := h2
  have lt2 : ∀ x ∈ p2, x.block < W.heap.size := by obtain ⟨m, hm⟩ := k2; exact DataW.trod_lt m _ _ _ hm
  obtain ⟨z2, w2⟩ : ∃ ls, Ls W (.slice a2 len2 cap2) ls ∧ Regs ls := by
    obtain ⟨fuel, hf⟩ := h2
    exact labs_of hf (fun es ss hdd => by
      have hw := sized_slice hsz (j := 2) (t := 25) (e := 24) rfl (by rw [hdd]; rfl) Try.underlying25
      rw [bytes24] at hw
      exact hw)
  clear hA0 hval0
  refine (walk x0_0 x0_1 x1_0 x1_1 a2 len2 cap2 z2 W w0 w1 w2).mono fun e W' ⟨he, bel⟩ => ?_
  subst he
  exact ⟨_, rfl, _, _, _, [], _, [], hW', trodAll_mk1 (shut_bool Try.underlying4 _), (trodAll_cons_mk (Below.trod laidOut (by kernel_rfl) (of_decide_eq_true (by kernel_rfl)) k0 bel lt0) (trodAll_cons_mk (Below.trod laidOut (by kernel_rfl) (of_decide_eq_true (by kernel_rfl)) k1 bel lt1) (trodAll_cons_mk (Below.trod laidOut (by kernel_rfl) (of_decide_eq_true (by kernel_rfl)) k2 bel lt2) trodAll_mk0))), rfl, bel.frame _, fun h => by cases h⟩

theorem over : Rows.veilTellsRow.holds Try.pinned (OpenSpec.ofChange Rows.veilTellsSpec) :=
  OpenClaim.holds_of_wide 3 Try.f3 rfl rfl rfl rfl rfl rfl rfl ⟨rfl, rfl, rfl, rfl, rfl⟩ rfl rfl rfl rfl rfl (by kernel_rfl) Try.func3 (by kernel_rfl)
    (of_decide_eq_true (by kernel_rfl)) (by unfold Func.isWrapper; first | (rw [if_pos (by decide +kernel)]; kernel_rfl) | (rw [if_neg (by decide +kernel)]; exact ⟨rfl, rfl⟩))
    (fun os started H enc _ => lifted os started H enc)

end Go.Proofs.Ytcgimbomandjfaa.veilTells
namespace Go.Proofs.Ytcgimbomandjfaa

/-- The statement. -/
theorem veilTells_proved : Rows.VeilTellsSaid := veilTells.over
#print axioms veilTells_proved
end Go.Proofs.Ytcgimbomandjfaa
