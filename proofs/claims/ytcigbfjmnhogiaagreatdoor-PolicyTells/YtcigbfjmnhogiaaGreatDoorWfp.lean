/- What the parameters' types allow. -/
import Derived.Test.YtcigbfjmnhogiaaGreatDoorOp
namespace Go.Proofs.YtcigbfjmnhogiaaGreatDoor
open Go.RowKit
set_option linter.unusedVariables false

theorem u32_of {p : Int} (h : (Lit.int .u32 p).wf = true) : 0 ≤ p ∧ p < 4294967296 := by
  simp only [Lit.wf, Bool.and_eq_true, decide_eq_true_eq] at h
  have h1 : IntKind.u32.min = 0 := by decide
  have h2 : IntKind.u32.max = 4294967295 := by decide
  rw [h1, h2] at h
  omega
theorem wfR_parts {rs : List RuleD} (h : ∀ r ∈ rs, WfR r) : ∀ r ∈ rs, 0 ≤ r.2.2 ∧ r.2.2 < 4294967296 := fun r hr => u32_of (h r hr).2.2
theorem wfQ_parts {qs : List ReaderD} (h : ∀ r ∈ qs, WfQ r) : ∀ r ∈ qs, 0 ≤ r.2.2.1 ∧ r.2.2.1 < 4294967296 := fun r hr => u32_of (h r hr).2.2.1

end Go.Proofs.YtcigbfjmnhogiaaGreatDoor
