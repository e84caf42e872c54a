/- Lists of so many values. -/
import Derived.Test.YteifaipbckhoiabRe
namespace Go.Proofs.Yteifaipbckhoiab
open Go.RowKit
set_option linter.unusedVariables false

theorem open5 {vs : List Value} (l0 : vs.length = 5) : ∃ v0 v1 v2 v3 v4, vs = [v0, v1, v2, v3, v4] := by
  obtain ⟨v0, t0, hv, l1⟩ := len_cons l0; subst hv; clear l0
  obtain ⟨v1, t1, hv, l2⟩ := len_cons l1; subst hv; clear l1
  obtain ⟨v2, t2, hv, l3⟩ := len_cons l2; subst hv; clear l2
  obtain ⟨v3, t3, hv, l4⟩ := len_cons l3; subst hv; clear l3
  obtain ⟨v4, t4, hv, l5⟩ := len_cons l4; subst hv; clear l4
  obtain rfl := len_nil l5
  exact ⟨_, _, _, _, _, rfl⟩

theorem with5 {C : List Value → Prop} {vs : List Value} (l0 : vs.length = 5) (h : ∀ v0 v1 v2 v3 v4, C [v0, v1, v2, v3, v4]) : C vs := by
  obtain ⟨v0, v1, v2, v3, v4, rfl⟩ := open5 l0
  exact h _ _ _ _ _

end Go.Proofs.Yteifaipbckhoiab
