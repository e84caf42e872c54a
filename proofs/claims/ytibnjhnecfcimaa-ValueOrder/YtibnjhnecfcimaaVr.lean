/- Lists of so many values. -/
import Derived.Test.YtibnjhnecfcimaaRe
namespace Go.Proofs.Ytibnjhnecfcimaa
open Go.RowKit
set_option linter.unusedVariables false

theorem open9 {vs : List Value} (l0 : vs.length = 9) : ∃ v0 v1 v2 v3 v4 v5 v6 v7 v8, vs = [v0, v1, v2, v3, v4, v5, v6, v7, v8] := by
  obtain ⟨v0, t0, hv, l1⟩ := len_cons l0; subst hv; clear l0
  obtain ⟨v1, t1, hv, l2⟩ := len_cons l1; subst hv; clear l1
  obtain ⟨v2, t2, hv, l3⟩ := len_cons l2; subst hv; clear l2
  obtain ⟨v3, t3, hv, l4⟩ := len_cons l3; subst hv; clear l3
  obtain ⟨v4, t4, hv, l5⟩ := len_cons l4; subst hv; clear l4
  obtain ⟨v5, t5, hv, l6⟩ := len_cons l5; subst hv; clear l5
  obtain ⟨v6, t6, hv, l7⟩ := len_cons l6; subst hv; clear l6
  obtain ⟨v7, t7, hv, l8⟩ := len_cons l7; subst hv; clear l7
  obtain ⟨v8, t8, hv, l9⟩ := len_cons l8; subst hv; clear l8
  obtain rfl := len_nil l9
  exact ⟨_, _, _, _, _, _, _, _, _, rfl⟩

theorem with9 {C : List Value → Prop} {vs : List Value} (l0 : vs.length = 9) (h : ∀ v0 v1 v2 v3 v4 v5 v6 v7 v8, C [v0, v1, v2, v3, v4, v5, v6, v7, v8]) : C vs := by
  obtain ⟨v0, v1, v2, v3, v4, v5, v6, v7, v8, rfl⟩ := open9 l0
  exact h _ _ _ _ _ _ _ _ _

end Go.Proofs.Ytibnjhnecfcimaa
