/- Lists of so many values. -/
import Derived.Test.YteifaipbckhoiabRe
namespace Go.Proofs.Yteifaipbckhoiab
open Go.RowKit
set_option linter.unusedVariables false

theorem open9 {vs : List Value} (l0 : vs.length = 9) : ∃ v0 v1 v2 v3 v4 v5 v6 v7 v8, vs = [v0, v1, v2, v3, v4, v5, v6, v7, v8] := by
  obtain ⟨v0, t0, hv, l1⟩ := len_cons l0; subst hv; clear l0
  obtain ⟨v1, t1, hv, l2⟩ := len_cons l1; subst hv; clear l1
  obtain ⟨v2, t2, hv, l3⟩ := len_cons l2; subst hv; clear l2
  obtain ⟨v3, t3, hv, l4⟩ := len_cons l3; subst hv; clear l3
  obtain ⟨v4, t4, hv, l5⟩ := len_cons l4; subst hv; clear l4
  obtain ⟨v5, t5, hv, l6⟩ := len_cons l5; subst hv; clear l5
  obtain ⟨v6, t6, hv, l7⟩ := len_cons l6; subst hv; clear l6
  obtain ⟨v7, t7, hv, l8⟩ := len_cons l7; subst hv; clear l7
  obtain ⟨v8, t8, hv, l9⟩ := len_cons l8; subst hv; clear l8
  obtain rfl := len_nil l9
  exact ⟨_, _, _, _, _, _, _, _, _, rfl⟩

theorem with9 {C : List Value → Prop} {vs : List Value} (l0 : vs.length = 9) (h : ∀ v0 v1 v2 v3 v4 v5 v6 v7 v8, C [v0, v1, v2, v3, v4, v5, v6, v7, v8]) : C vs := by
  obtain ⟨v0, v1, v2, v3, v4, v5, v6, v7, v8, rfl⟩ := open9 l0
  exact h _ _ _ _ _ _ _ _ _

theorem open15 {vs : List Value} (l0 : vs.length = 15) : ∃ v0 v1 v2 v3 v4 v5 v6 v7 v8 v9 v10 v11 v12 v13 v14, vs = [v0, v1, v2, v3, v4, v5, v6, v7, v8, v9, v10, v11, v12, v13, v14] := by
  obtain ⟨v0, t0, hv, l1⟩ := len_cons l0; subst hv; clear l0
  obtain ⟨v1, t1, hv, l2⟩ := len_cons l1; subst hv; clear l1
  obtain ⟨v2, t2, hv, l3⟩ := len_cons l2; subst hv; clear l2
  obtain ⟨v3, t3, hv, l4⟩ := len_cons l3; subst hv; clear l3
  obtain ⟨v4, t4, hv, l5⟩ := len_cons l4; subst hv; clear l4
  obtain ⟨v5, t5, hv, l6⟩ := len_cons l5; subst hv; clear l5
  obtain ⟨v6, t6, hv, l7⟩ := len_cons l6; subst hv; clear l6
  obtain ⟨v7, t7, hv, l8⟩ := len_cons l7; subst hv; clear l7
  obtain ⟨v8, t8, hv, l9⟩ := len_cons l8; subst hv; clear l8
  obtain ⟨v9, t9, hv, l10⟩ := len_cons l9; subst hv; clear l9
  obtain ⟨v10, t10, hv, l11⟩ := len_cons l10; subst hv; clear l10
  obtain ⟨v11, t11, hv, l12⟩ := len_cons l11; subst hv; clear l11
  obtain ⟨v12, t12, hv, l13⟩ := len_cons l12; subst hv; clear l12
  obtain ⟨v13, t13, hv, l14⟩ := len_cons l13; subst hv; clear l13
  obtain ⟨v14, t14, hv, l15⟩ := len_cons l14; subst hv; clear l14
  obtain rfl := len_nil l15
  exact ⟨_, _, _, _, _, _, _, _, _, _, _, _, _, _, _, rfl⟩

theorem with15 {C : List Value → Prop} {vs : List Value} (l0 : vs.length = 15) (h : ∀ v0 v1 v2 v3 v4 v5 v6 v7 v8 v9 v10 v11 v12 v13 v14, C [v0, v1, v2, v3, v4, v5, v6, v7, v8, v9, v10, v11, v12, v13, v14]) : C vs := by
  obtain ⟨v0, v1, v2, v3, v4, v5, v6, v7, v8, v9, v10, v11, v12, v13, v14, rfl⟩ := open15 l0
  exact h _ _ _ _ _ _ _ _ _ _ _ _ _ _ _

end Go.Proofs.Yteifaipbckhoiab
