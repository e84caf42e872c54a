/- Lists of so many values. Lists of so many values. Lists of so many values. Lists of so many values. -/
import Derived.Test.YteifaipbckhoiabRe
namespace Go.Proofs.Yteifaipbckhoiab
open Go.RowKit
set_option linter.unusedVariables false

theorem open23 {vs : List Value} (l0 : vs.length = 23) : ∃ v0 v1 v2 v3 v4 v5 v6 v7 v8 v9 v10 v11 v12 v13 v14 v15 v16 v17 v18 v19 v20 v21 v22, vs = [v0, v1, v2, v3, v4, v5, v6, v7, v8, v9, v10, v11, v12, v13, v14, v15, v16, v17, v18, v19, v20, v21, v22] := by
  obtain ⟨v0, t0, hv, l1⟩ := len_cons l0; subst hv; clear l0
  obtain ⟨v1, t1, hv, l2⟩ := len_cons l1; subst hv; clear l1
  obtain ⟨v2, t2, hv, l3⟩ := len_cons l2; subst hv; clear l2
  obtain ⟨v3, t3, hv, l4⟩ := len_cons l3; subst hv; clear l3
  obtain ⟨v4, t4, hv, l5⟩ := len_cons l4; subst hv; clear l4
  obtain ⟨v5, t5, hv, l6⟩ := len_cons l5; subst hv; clear l5
  obtain ⟨v6, t6, hv, l7⟩ := len_cons l6; subst hv; clear l6
  obtain ⟨v7, t7, hv, l8⟩ := len_cons l7; subst hv; clear l7
  obtain ⟨v8, t8, hv, l9⟩ := len_cons l8; subst hv; clear l8
  obtain ⟨v9, t9, hv, l10⟩ := len_cons l9; subst hv; clear l9
  obtain ⟨v10, t10, hv, l11⟩ := len_cons l10; subst hv; clear l10
  obtain ⟨v11, t11, hv, l12⟩ := len_cons l11; subst hv; clear l11
  obtain ⟨v12, t12, hv, l13⟩ := len_cons l12; subst hv; clear l12
  obtain ⟨v13, t13, hv, l14⟩ := len_cons l13; subst hv; clear l13
  obtain ⟨v14, t14, hv, l15⟩ := len_cons l14; subst hv; clear l14
  obtain ⟨v15, t15, hv, l16⟩ := len_cons l15; subst hv; clear l15
  obtain ⟨v16, t16, hv, l17⟩ := len_cons l16; subst hv; clear l16
  obtain ⟨v17, t17, hv, l18⟩ := len_cons l17; subst hv; clear l17
  obtain ⟨v18, t18, hv, l19⟩ := len_cons l18; subst hv; clear l18
  obtain ⟨v19, t19, hv, l20⟩ := len_cons l19; subst hv; clear l19
  obtain ⟨v20, t20, hv, l21⟩ := len_cons l20; subst hv; clear l20
  obtain ⟨v21, t21, hv, l22⟩ := len_cons l21; subst hv; clear l21
  obtain ⟨v22, t22, hv, l23⟩ := len_cons l22; subst hv; clear l22
  obtain rfl := len_nil l23
  exact ⟨_, _, _, _, _, _, _, _, _, _, _, _, _, _, _, _, _, _, _, _, _, _, _, rfl⟩

theorem with23 {C : List Value → Prop} {vs : List Value} (l0 : vs.length = 23) (h : ∀ v0 v1 v2 v3 v4 v5 v6 v7 v8 v9 v10 v11 v12 v13 v14 v15 v16 v17 v18 v19 v20 v21 v22, C [v0, v1, v2, v3, v4, v5, v6, v7, v8, v9, v10, v11, v12, v13, v14, v15, v16, v17, v18, v19, v20, v21, v22]) : C vs := by
  obtain ⟨v0, v1, v2, v3, v4, v5, v6, v7, v8, v9, v10, v11, v12, v13, v14, v15, v16, v17, v18, v19, v20, v21, v22, rfl⟩ := open23 l0
  exact h _ _ _ _ _ _ _ _ _ _ _ _ _ _ _ _ _ _ _ _ _ _ _

end Go.Proofs.Yteifaipbckhoiab

namespace Go.Proofs.Yteifaipbckhoiab
open Go.RowKit
set_option linter.unusedVariables false

theorem open10 {vs : List Value} (l0 : vs.length = 10) : ∃ v0 v1 v2 v3 v4 v5 v6 v7 v8 v9, vs = [v0, v1, v2, v3, v4, v5, v6, v7, v8, v9] := by
  obtain ⟨v0, t0, hv, l1⟩ := len_cons l0; subst hv; clear l0
  obtain ⟨v1, t1, hv, l2⟩ := len_cons l1; subst hv; clear l1
  obtain ⟨v2, t2, hv, l3⟩ := len_cons l2; subst hv; clear l2
  obtain ⟨v3, t3, hv, l4⟩ := len_cons l3; subst hv; clear l3
  obtain ⟨v4, t4, hv, l5⟩ := len_cons l4; subst hv; clear l4
  obtain ⟨v5, t5, hv, l6⟩ := len_cons l5; subst hv; clear l5
  obtain ⟨v6, t6, hv, l7⟩ := len_cons l6; subst hv; clear l6
  obtain ⟨v7, t7, hv, l8⟩ := len_cons l7; subst hv; clear l7
  obtain ⟨v8, t8, hv, l9⟩ := len_cons l8; subst hv; clear l8
  obtain ⟨v9, t9, hv, l10⟩ := len_cons l9; subst hv; clear l9
  obtain rfl := len_nil l10
  exact ⟨_, _, _, _, _, _, _, _, _, _, rfl⟩

theorem with10 {C : List Value → Prop} {vs : List Value} (l0 : vs.length = 10) (h : ∀ v0 v1 v2 v3 v4 v5 v6 v7 v8 v9, C [v0, v1, v2, v3, v4, v5, v6, v7, v8, v9]) : C vs := by
  obtain ⟨v0, v1, v2, v3, v4, v5, v6, v7, v8, v9, rfl⟩ := open10 l0
  exact h _ _ _ _ _ _ _ _ _ _

end Go.Proofs.Yteifaipbckhoiab

namespace Go.Proofs.Yteifaipbckhoiab
open Go.RowKit
set_option linter.unusedVariables false

theorem open7 {vs : List Value} (l0 : vs.length = 7) : ∃ v0 v1 v2 v3 v4 v5 v6, vs = [v0, v1, v2, v3, v4, v5, v6] := by
  obtain ⟨v0, t0, hv, l1⟩ := len_cons l0; subst hv; clear l0
  obtain ⟨v1, t1, hv, l2⟩ := len_cons l1; subst hv; clear l1
  obtain ⟨v2, t2, hv, l3⟩ := len_cons l2; subst hv; clear l2
  obtain ⟨v3, t3, hv, l4⟩ := len_cons l3; subst hv; clear l3
  obtain ⟨v4, t4, hv, l5⟩ := len_cons l4; subst hv; clear l4
  obtain ⟨v5, t5, hv, l6⟩ := len_cons l5; subst hv; clear l5
  obtain ⟨v6, t6, hv, l7⟩ := len_cons l6; subst hv; clear l6
  obtain rfl := len_nil l7
  exact ⟨_, _, _, _, _, _, _, rfl⟩

theorem with7 {C : List Value → Prop} {vs : List Value} (l0 : vs.length = 7) (h : ∀ v0 v1 v2 v3 v4 v5 v6, C [v0, v1, v2, v3, v4, v5, v6]) : C vs := by
  obtain ⟨v0, v1, v2, v3, v4, v5, v6, rfl⟩ := open7 l0
  exact h _ _ _ _ _ _ _

end Go.Proofs.Yteifaipbckhoiab

namespace Go.Proofs.Yteifaipbckhoiab
open Go.RowKit
set_option linter.unusedVariables false

theorem open16 {vs : List Value} (l0 : vs.length = 16) : ∃ v0 v1 v2 v3 v4 v5 v6 v7 v8 v9 v10 v11 v12 v13 v14 v15, vs = [v0, v1, v2, v3, v4, v5, v6, v7, v8, v9, v10, v11, v12, v13, v14, v15] := by
  obtain ⟨v0, t0, hv, l1⟩ := len_cons l0; subst hv; clear l0
  obtain ⟨v1, t1, hv, l2⟩ := len_cons l1; subst hv; clear l1
  obtain ⟨v2, t2, hv, l3⟩ := len_cons l2; subst hv; clear l2
  obtain ⟨v3, t3, hv, l4⟩ := len_cons l3; subst hv; clear l3
  obtain ⟨v4, t4, hv, l5⟩ := len_cons l4; subst hv; clear l4
  obtain ⟨v5, t5, hv, l6⟩ := len_cons l5; subst hv; clear l5
  obtain ⟨v6, t6, hv, l7⟩ := len_cons l6; subst hv; clear l6
  obtain ⟨v7, t7, hv, l8⟩ := len_cons l7; subst hv; clear l7
  obtain ⟨v8, t8, hv, l9⟩ := len_cons l8; subst hv; clear l8
  obtain ⟨v9, t9, hv, l10⟩ := len_cons l9; subst hv; clear l9
  obtain ⟨v10, t10, hv, l11⟩ := len_cons l10; subst hv; clear l10
  obtain ⟨v11, t11, hv, l12⟩ := len_cons l11; subst hv; clear l11
  obtain ⟨v12, t12, hv, l13⟩ := len_cons l12; subst hv; clear l12
  obtain ⟨v13, t13, hv, l14⟩ := len_cons l13; subst hv; clear l13
  obtain ⟨v14, t14, hv, l15⟩ := len_cons l14; subst hv; clear l14
  obtain ⟨v15, t15, hv, l16⟩ := len_cons l15; subst hv; clear l15
  obtain rfl := len_nil l16
  exact ⟨_, _, _, _, _, _, _, _, _, _, _, _, _, _, _, _, rfl⟩

theorem with16 {C : List Value → Prop} {vs : List Value} (l0 : vs.length = 16) (h : ∀ v0 v1 v2 v3 v4 v5 v6 v7 v8 v9 v10 v11 v12 v13 v14 v15, C [v0, v1, v2, v3, v4, v5, v6, v7, v8, v9, v10, v11, v12, v13, v14, v15]) : C vs := by
  obtain ⟨v0, v1, v2, v3, v4, v5, v6, v7, v8, v9, v10, v11, v12, v13, v14, v15, rfl⟩ := open16 l0
  exact h _ _ _ _ _ _ _ _ _ _ _ _ _ _ _ _

end Go.Proofs.Yteifaipbckhoiab
