/- Lists of so many values. -/
import Derived.Test.YtibnjhnecfcimaaRe
namespace Go.Proofs.Ytibnjhnecfcimaa
open Go.RowKit
set_option linter.unusedVariables false

theorem open43 {vs : List Value} (l0 : vs.length = 43) : ∃ v0 v1 v2 v3 v4 v5 v6 v7 v8 v9 v10 v11 v12 v13 v14 v15 v16 v17 v18 v19 v20 v21 v22 v23 v24 v25 v26 v27 v28 v29 v30 v31 v32 v33 v34 v35 v36 v37 v38 v39 v40 v41 v42, vs = [v0, v1, v2, v3, v4, v5, v6, v7, v8, v9, v10, v11, v12, v13, v14, v15, v16, v17, v18, v19, v20, v21, v22, v23, v24, v25, v26, v27, v28, v29, v30, v31, v32, v33, v34, v35, v36, v37, v38, v39, v40, v41, v42] := by
  obtain ⟨v0, t0, hv, l1⟩ := len_cons l0; subst hv; clear l0
  obtain ⟨v1, t1, hv, l2⟩ := len_cons l1; subst hv; clear l1
  obtain ⟨v2, t2, hv, l3⟩ := len_cons l2; subst hv; clear l2
  obtain ⟨v3, t3, hv, l4⟩ := len_cons l3; subst hv; clear l3
  obtain ⟨v4, t4, hv, l5⟩ := len_cons l4; subst hv; clear l4
  obtain ⟨v5, t5, hv, l6⟩ := len_cons l5; subst hv; clear l5
  obtain ⟨v6, t6, hv, l7⟩ := len_cons l6; subst hv; clear l6
  obtain ⟨v7, t7, hv, l8⟩ := len_cons l7; subst hv; clear l7
  obtain ⟨v8, t8, hv, l9⟩ := len_cons l8; subst hv; clear l8
  obtain ⟨v9, t9, hv, l10⟩ := len_cons l9; subst hv; clear l9
  obtain ⟨v10, t10, hv, l11⟩ := len_cons l10; subst hv; clear l10
  obtain ⟨v11, t11, hv, l12⟩ := len_cons l11; subst hv; clear l11
  obtain ⟨v12, t12, hv, l13⟩ := len_cons l12; subst hv; clear l12
  obtain ⟨v13, t13, hv, l14⟩ := len_cons l13; subst hv; clear l13
  obtain ⟨v14, t14, hv, l15⟩ := len_cons l14; subst hv; clear l14
  obtain ⟨v15, t15, hv, l16⟩ := len_cons l15; subst hv; clear l15
  obtain ⟨v16, t16, hv, l17⟩ := len_cons l16; subst hv; clear l16
  obtain ⟨v17, t17, hv, l18⟩ := len_cons l17; subst hv; clear l17
  obtain ⟨v18, t18, hv, l19⟩ := len_cons l18; subst hv; clear l18
  obtain ⟨v19, t19, hv, l20⟩ := len_cons l19; subst hv; clear l19
  obtain ⟨v20, t20, hv, l21⟩ := len_cons l20; subst hv; clear l20
  obtain ⟨v21, t21, hv, l22⟩ := len_cons l21; subst hv; clear l21
  obtain ⟨v22, t22, hv, l23⟩ := len_cons l22; subst hv; clear l22
  obtain ⟨v23, t23, hv, l24⟩ := len_cons l23; subst hv; clear l23
  obtain ⟨v24, t24, hv, l25⟩ := len_cons l24; subst hv; clear l24
  obtain ⟨v25, t25, hv, l26⟩ := len_cons l25; subst hv; clear l25
  obtain ⟨v26, t26, hv, l27⟩ := len_cons l26; subst hv; clear l26
  obtain ⟨v27, t27, hv, l28⟩ := len_cons l27; subst hv; clear l27
  obtain ⟨v28, t28, hv, l29⟩ := len_cons l28; subst hv; clear l28
  obtain ⟨v29, t29, hv, l30⟩ := len_cons l29; subst hv; clear l29
  obtain ⟨v30, t30, hv, l31⟩ := len_cons l30; subst hv; clear l30
  obtain ⟨v31, t31, hv, l32⟩ := len_cons l31; subst hv; clear l31
  obtain ⟨v32, t32, hv, l33⟩ := len_cons l32; subst hv; clear l32
  obtain ⟨v33, t33, hv, l34⟩ := len_cons l33; subst hv; clear l33
  obtain ⟨v34, t34, hv, l35⟩ := len_cons l34; subst hv; clear l34
  obtain ⟨v35, t35, hv, l36⟩ := len_cons l35; subst hv; clear l35
  obtain ⟨v36, t36, hv, l37⟩ := len_cons l36; subst hv; clear l36
  obtain ⟨v37, t37, hv, l38⟩ := len_cons l37; subst hv; clear l37
  obtain ⟨v38, t38, hv, l39⟩ := len_cons l38; subst hv; clear l38
  obtain ⟨v39, t39, hv, l40⟩ := len_cons l39; subst hv; clear l39
  obtain ⟨v40, t40, hv, l41⟩ := len_cons l40; subst hv; clear l40
  obtain ⟨v41, t41, hv, l42⟩ := len_cons l41; subst hv; clear l41
  obtain ⟨v42, t42, hv, l43⟩ := len_cons l42; subst hv; clear l42
  obtain rfl := len_nil l43
  exact ⟨_, _, _, _, _, _, _, _, _, _, _, _, _, _, _, _, _, _, _, _, _, _, _, _, _, _, _, _, _, _, _, _, _, _, _, _, _, _, _, _, _, _, _, rfl⟩

theorem with43 {C : List Value → Prop} {vs : List Value} (l0 : vs.length = 43) (h : ∀ v0 v1 v2 v3 v4 v5 v6 v7 v8 v9 v10 v11 v12 v13 v14 v15 v16 v17 v18 v19 v20 v21 v22 v23 v24 v25 v26 v27 v28 v29 v30 v31 v32 v33 v34 v35 v36 v37 v38 v39 v40 v41 v42, C [v0, v1, v2, v3, v4, v5, v6, v7, v8, v9, v10, v11, v12, v13, v14, v15, v16, v17, v18, v19, v20, v21, v22, v23, v24, v25, v26, v27, v28, v29, v30, v31, v32, v33, v34, v35, v36, v37, v38, v39, v40, v41, v42]) : C vs := by
  obtain ⟨v0, v1, v2, v3, v4, v5, v6, v7, v8, v9, v10, v11, v12, v13, v14, v15, v16, v17, v18, v19, v20, v21, v22, v23, v24, v25, v26, v27, v28, v29, v30, v31, v32, v33, v34, v35, v36, v37, v38, v39, v40, v41, v42, rfl⟩ := open43 l0
  exact h _ _ _ _ _ _ _ _ _ _ _ _ _ _ _ _ _ _ _ _ _ _ _ _ _ _ _ _ _ _ _ _ _ _ _ _ _ _ _ _ _ _ _

end Go.Proofs.Ytibnjhnecfcimaa
