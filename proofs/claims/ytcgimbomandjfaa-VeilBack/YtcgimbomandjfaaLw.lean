/- Labels that came in: their numbers' ends. -/
import Derived.Test.YtcgimbomandjfaaLo
import Derived.Test.YtcgimbomandjfaaPl
namespace Go.Proofs.Ytcgimbomandjfaa
open Go.RowKit
set_option linter.unusedVariables false

theorem lab_wf {x p : Int} (h : (Lit.int .i64 x).wf = true ∧ (Lit.int .u32 p).wf = true) : (-9223372036854775808 ≤ x ∧ x ≤ 9223372036854775807) ∧ ∃ P : BitVec 32, p = (P.toNat : Int) := by
  obtain ⟨h1, h2⟩ := h
  simp only [Lit.wf, Bool.and_eq_true, decide_eq_true_eq] at h1 h2
  have a1 : IntKind.i64.min = -9223372036854775808 := rfl
  have a2 : IntKind.i64.max = 9223372036854775807 := rfl
  have a3 : IntKind.u32.min = 0 := rfl
  have a4 : IntKind.u32.max = 4294967295 := rfl
  rw [a1, a2] at h1
  rw [a3, a4] at h2
  exact ⟨h1, regOf p h2.1 (by omega)⟩

/-- == of labels. -/
theorem eq24b (x y : Int) (p q : BitVec 32) (b : Bool) (hb : b = decide (x = y ∧ p = q)) (w : World) : (Op.equalIn 10000 24 (.agg #[.int .i64 x, .int .u32 (p.toNat : Int)]) (.agg #[.int .i64 y, .int .u32 (q.toNat : Int)])).run Try.prog w = .ok b w := by
  rw [eq24, hb]
  congr 1
  by_cases h1 : x = y
  · subst h1
    by_cases h2 : p = q
    · subst h2; simp
    · have : ((p.toNat : Int) == (q.toNat : Int)) = false := by
        rw [beq_eq_false_iff_ne]
        intro e
        exact h2 (BitVec.eq_of_toNat_eq (by omega))
      simp [h2, this]
  · have : (x == y) = false := by rw [beq_eq_false_iff_ne]; exact h1
    simp [h1]

end Go.Proofs.Ytcgimbomandjfaa
