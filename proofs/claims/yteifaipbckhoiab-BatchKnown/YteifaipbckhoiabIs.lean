/- The examples' helper: there and back. -/
import Derived.Test.YteifaipbckhoiabWb8
import Derived.Test.YteifaipbckhoiabTka
import Derived.Test.YteifaipbckhoiabAl
import Derived.Test.YteifaipbckhoiabSm8
import Derived.Test.YteifaipbckhoiabVs
namespace Go.Proofs.Yteifaipbckhoiab
open Go.RowKit
set_option linter.unusedVariables false

theorem sameA_self (a : AttrD) : sameA a a = true := (sameA_iff a a).2 rfl
theorem Step.drewN {RB rb : Nat} {l2 l3 : List Int} {e2 e3 : Int} {u v : Value} {W : World} (h : Step RB rb l2 e2 u l3 e3 v W) (m : Nat) : Step RB rb l2 e2 u l3 e3 v (W.drewN m) := by
  rcases h with ⟨h1, h2⟩ | ⟨h1, h2⟩
  · exact Or.inl ⟨h1, h2.drewN m⟩
  · exact Or.inr ⟨h1, h2.drewN m⟩
theorem eq_sx {N M : Nat} {w : World} {va vb : Value} {l : List Int} (ha : Bx N w va l) (hb : Bx M w vb l) : Calls Try.prog 8 #[va, vb] w fun e w' => e = .returned (.bool true) ∧ ∃ m, w' = w.drewN m := by
  rcases ha with ha | ⟨rfl, x, cap, rfl⟩
  · refine (eq_bx ha hb).mono ?_
    rintro e w' ⟨rfl, m, rfl⟩
    exact ⟨by rw [decide_eq_true rfl], m, rfl⟩
  · obtain ⟨y, c, rfl⟩ := hb.len
    refine (eq_none (some x) y cap c w).mono ?_
    rintro e w' ⟨rfl, rfl⟩
    exact ⟨rfl, 0, rfl⟩

end Go.Proofs.Yteifaipbckhoiab
