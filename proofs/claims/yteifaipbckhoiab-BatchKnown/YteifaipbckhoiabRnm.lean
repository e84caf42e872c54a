/- The document's IsName. -/
import Derived.Test.YteifaipbckhoiabMe
namespace Go.Proofs.Yteifaipbckhoiab
open Go.RowKit
set_option linter.unusedVariables false

theorem rname_cases (c j : Nat) (h : c < 256) : ((97 : Int) ≤ (c : Int) ∧ (c : Int) ≤ 122) ∨ (¬ (97 : Int) ≤ (c : Int) ∧ ((j : Int) == 0) = true) ∨ (¬ (97 : Int) ≤ (c : Int) ∧ ((j : Int) == 0) = false ∧ (c : Int) < 48 ∧ ((c : Int) != 46) = false) ∨ (¬ (97 : Int) ≤ (c : Int) ∧ ((j : Int) == 0) = false ∧ (c : Int) < 48 ∧ ((c : Int) != 46) = true ∧ ((c : Int) != 45) = false) ∨ (¬ (97 : Int) ≤ (c : Int) ∧ ((j : Int) == 0) = false ∧ (c : Int) < 48 ∧ ((c : Int) != 46) = true ∧ ((c : Int) != 45) = true) ∨ (¬ (97 : Int) ≤ (c : Int) ∧ ((j : Int) == 0) = false ∧ ¬ (c : Int) < 48 ∧ ¬ (57 : Int) < (c : Int)) ∨ (¬ (97 : Int) ≤ (c : Int) ∧ ((j : Int) == 0) = false ∧ ¬ (c : Int) < 48 ∧ (57 : Int) < (c : Int) ∧ ((c : Int) != 46) = true ∧ ((c : Int) != 45) = true) ∨ ((97 : Int) ≤ (c : Int) ∧ ¬ (c : Int) ≤ 122 ∧ ((j : Int) == 0) = true) ∨ ((97 : Int) ≤ (c : Int) ∧ ¬ (c : Int) ≤ 122 ∧ ((j : Int) == 0) = false ∧ ¬ (c : Int) < 48 ∧ (57 : Int) < (c : Int) ∧ ((c : Int) != 46) = true ∧ ((c : Int) != 45) = true) := by
  simp only [beq_iff_eq, beq_eq_false_iff_ne, bne_iff_ne, bne_eq_false_iff_eq, ne_eq]
  omega

end Go.Proofs.Yteifaipbckhoiab
