/- ValueOrder: the law's walk. -/
import Derived.Test.YtibnjhnecfcimaaWkv
import Derived.Test.YtibnjhnecfcimaaCp8
import Derived.Test.YtibnjhnecfcimaaVr
namespace Go.Proofs.Ytibnjhnecfcimaa
open Go.RowKit
set_option linter.unusedVariables false

set_option maxRecDepth 100000 in
set_option maxHeartbeats 8000000 in
theorem order_walk (k n : Int) (s : ByteArray) (k2 n2 : Int) (s2 : ByteArray) (k3 n3 : Int) (s3 : ByteArray) (w : World) :
    Calls Try.prog 7 #[.agg #[.int .i64 k, .int .i64 n, .string s], .agg #[.int .i64 k2, .int .i64 n2, .string s2], .agg #[.int .i64 k3, .int .i64 n3, .string s3]] w fun e w' => VEnd w (.bool true) e w' := by
  have hl := cmpV_law (k, n, s) (k2, n2, s2) (k3, n3, s3)
  have hb2 := cmpV_ordr.bd (k2, n2, s2) (k3, n3, s3)
  have hb3 := cmpV_ordr.bd (k, n, s) (k3, n3, s3)
  have CAB := hd fun w => cmp_any (k, n, s) (k2, n2, s2) w
  have CBC := hd fun w => cmp_any (k2, n2, s2) (k3, n3, s3) w
  have CAC := hd fun w => cmp_any (k, n, s) (k3, n3, s3) w
  have CBA := hd fun w => cmp_any (k2, n2, s2) (k, n, s) w
  unfold V3 at CAB CBC CAC CBA
  simp only at CAB CBC CAC CBA
  have hq : sameV (k, n, s) (k2, n2, s2) = decide (cmpV (k, n, s) (k2, n2, s2) = 0) := by
    by_cases h : cmpV (k, n, s) (k2, n2, s2) = 0
    · rw [decide_eq_true h, (sameV_iff _ _).2 (hl.2.1.1 h)]
    · rw [decide_eq_false h]
      cases hs : sameV (k, n, s) (k2, n2, s2)
      · rfl
      · exact absurd (hl.2.1.2 ((sameV_iff _ _).1 hs)) h
  obtain ⟨h1, _, h3, h4, h5, h6⟩ := hl
  generalize cmpV (k, n, s) (k2, n2, s2) = x at *
  generalize cmpV (k2, n2, s2) (k3, n3, s3) = y at *
  generalize cmpV (k, n, s) (k3, n3, s3) = z at *
  generalize cmpV (k2, n2, s2) (k, n, s) = u at *
  have hu : u = -x := by omega
  subst hu
  have HQ := hd hq
  have HH : Hid (-1 ≤ x ∧ x ≤ 1 ∧ (y = -1 ∨ y = 0 ∨ y = 1) ∧ (z = -1 ∨ z = 0 ∨ z = 1) ∧ (0 < x ∨ 0 < y ∨ z ≤ 0) ∧ (0 ≤ x ∨ 0 < y ∨ z < 0)) := hd ⟨h3, h4, hb2, hb3, h5, h6⟩
  clear hq h1 h3 h4 h5 h6 hb2 hb3
  go_enter Try.func7, Try.ntmps7
  go_wp2_with fail
  have V1 := Bk.new w 23 #[Value.int IntKind.i64 k, Value.int IntKind.i64 n, Value.string s]
  have B1 := below1 w (Obj.cells #[Value.int IntKind.i64 k, Value.int IntKind.i64 n, Value.string s] 23)
  have z1 : (w.alloc (Obj.cells #[Value.int IntKind.i64 k, Value.int IntKind.i64 n, Value.string s] 23)).heap.size = w.heap.size + 1 := by simp
  generalize w.alloc (Obj.cells #[Value.int IntKind.i64 k, Value.int IntKind.i64 n, Value.string s] 23) = w1 at *
  have V2 := Bk.new w1 23 #[Value.int IntKind.i64 k2, Value.int IntKind.i64 n2, Value.string s2]
  have NB := below1 w1 (Obj.cells #[Value.int IntKind.i64 k2, Value.int IntKind.i64 n2, Value.string s2] 23)
  replace V1 := V1.keep NB
  replace B1 := below_below B1 NB
  have z2 : (w1.alloc (Obj.cells #[Value.int IntKind.i64 k2, Value.int IntKind.i64 n2, Value.string s2] 23)).heap.size = w.heap.size + 1 + 1 := by simp [z1]
  rw [z1] at V2
  generalize w1.alloc (Obj.cells #[Value.int IntKind.i64 k2, Value.int IntKind.i64 n2, Value.string s2] 23) = w2 at *
  have V3_ := Bk.new w2 23 #[Value.int IntKind.i64 k3, Value.int IntKind.i64 n3, Value.string s3]
  have NB2 := below1 w2 (Obj.cells #[Value.int IntKind.i64 k3, Value.int IntKind.i64 n3, Value.string s3] 23)
  replace V1 := V1.keep NB2
  replace V2 := V2.keep NB2
  replace B1 := below_below B1 NB2
  rw [z2] at V3_
  generalize w2.alloc (Obj.cells #[Value.int IntKind.i64 k3, Value.int IntKind.i64 n3, Value.string s3] 23) = w3 at *
  refine (works_true w3).mono ?_
  rintro e w4 ⟨rfl, hk⟩
  replace V1 := V1.keep hk
  replace V2 := V2.keep hk
  replace V3_ := V3_.keep hk
  replace B1 := hd (below_below B1 hk)
  clear hk NB NB2 z1 z2
  have HV1 := hd V1
  have HV2 := hd V2
  have HV3 := hd V3_
  clear V1 V2 V3_
  go_wp2_with fail
  refine wp_region_each 9 (fun W W' => Below W.heap.size W W') (fun i v W => match i with | 0 => v = Value.agg #[Value.int IntKind.i64 k, Value.int IntKind.i64 n, Value.string s] | 1 => v = Value.agg #[Value.int IntKind.i64 k2, Value.int IntKind.i64 n2, Value.string s2] | 2 => v = Value.int IntKind.i64 x | 3 => v = Value.agg #[Value.int IntKind.i64 k2, Value.int IntKind.i64 n2, Value.string s2] | 4 => v = Value.agg #[Value.int IntKind.i64 k3, Value.int IntKind.i64 n3, Value.string s3] | 5 => v = Value.int IntKind.i64 y | 6 => v = Value.agg #[Value.int IntKind.i64 k, Value.int IntKind.i64 n, Value.string s] | 7 => v = Value.agg #[Value.int IntKind.i64 k3, Value.int IntKind.i64 n3, Value.string s3] | 8 => v = Value.int IntKind.i64 z | _ => True) (fun vs W => Below w4.heap.size w4 W) (by kernel_rfl) (by kernel_rfl) (fun j v W W' hE h => by
      match j with
      | 0 => exact h
      | 1 => exact h
      | 2 => exact h
      | 3 => exact h
      | 4 => exact h
      | 5 => exact h
      | 6 => exact h
      | 7 => exact h
      | 8 => exact h
      | _ + 9 => trivial) (by exact (Below.refl _ _).drew) ?_ ?_
  · simp only [List.take_succ_cons, List.take_zero]
    refine Each.cons (fun vs W hl => ?_) ?_
    · apply with9 hl
      clear hl vs
      intro v0 v1 v2 v3 v4 v5 v6 v7 v8 hg hnew hd K hK
      clear hd
      clear hnew
      rw [if_pos (by kernel_rfl)]
      simp only [puts, Act.put, List.setIfInBounds_toArray, List.set_cons_zero, List.set_cons_succ] at hK ⊢
      have c := HV1.out.keep hg
      have c0 := c.cell 0
      have c1 := c.cell 1
      have c2 := c.cell 2
      simp at c0 c1 c2
      go_simp
      exact hK _ _ (Below.refl _ _) rfl hg
    refine Each.cons (fun vs W hl => ?_) ?_
    · apply with9 hl
      clear hl vs
      intro v0 v1 v2 v3 v4 v5 v6 v7 v8 hg hnew hd K hK
      clear hd
      clear hnew
      rw [if_pos (by kernel_rfl)]
      simp only [puts, Act.put, List.setIfInBounds_toArray, List.set_cons_zero, List.set_cons_succ] at hK ⊢
      have c := HV2.out.keep hg
      have c0 := c.cell 0
      have c1 := c.cell 1
      have c2 := c.cell 2
      simp at c0 c1 c2
      go_simp
      exact hK _ _ (Below.refl _ _) rfl hg
    refine Each.cons (fun vs W hl => ?_) ?_
    · apply with9 hl
      clear hl vs
      intro v0 v1 v2 v3 v4 v5 v6 v7 v8 hg hnew hd K hK
      have d0 : v0 = Value.agg #[Value.int IntKind.i64 k, Value.int IntKind.i64 n, Value.string s] := hd 0 v0 (by kernel_rfl) rfl
      subst d0
      have d1 : v1 = Value.agg #[Value.int IntKind.i64 k2, Value.int IntKind.i64 n2, Value.string s2] := hd 1 v1 (by kernel_rfl) rfl
      subst d1
      clear hd
      clear hnew
      rw [if_pos (by kernel_rfl)]
      simp only [puts, Act.put, List.setIfInBounds_toArray, List.set_cons_zero, List.set_cons_succ] at hK ⊢
      go_simp
      refine (CAB.out _).mono ?_
      rintro e w' ⟨rfl, hk⟩
      exact hK _ _ hk rfl (below_below hg hk)
    refine Each.cons (fun vs W hl => ?_) ?_
    · apply with9 hl
      clear hl vs
      intro v0 v1 v2 v3 v4 v5 v6 v7 v8 hg hnew hd K hK
      clear hd
      clear hnew
      rw [if_pos (by kernel_rfl)]
      simp only [puts, Act.put, List.setIfInBounds_toArray, List.set_cons_zero, List.set_cons_succ] at hK ⊢
      have c := HV2.out.keep hg
      have c0 := c.cell 0
      have c1 := c.cell 1
      have c2 := c.cell 2
      simp at c0 c1 c2
      go_simp
      exact hK _ _ (Below.refl _ _) rfl hg
    refine Each.cons (fun vs W hl => ?_) ?_
    · apply with9 hl
      clear hl vs
      intro v0 v1 v2 v3 v4 v5 v6 v7 v8 hg hnew hd K hK
      clear hd
      clear hnew
      rw [if_pos (by kernel_rfl)]
      simp only [puts, Act.put, List.setIfInBounds_toArray, List.set_cons_zero, List.set_cons_succ] at hK ⊢
      have c := HV3.out.keep hg
      have c0 := c.cell 0
      have c1 := c.cell 1
      have c2 := c.cell 2
      simp at c0 c1 c2
      go_simp
      exact hK _ _ (Below.refl _ _) rfl hg
    refine Each.cons (fun vs W hl => ?_) ?_
    · apply with9 hl
      clear hl vs
      intro v0 v1 v2 v3 v4 v5 v6 v7 v8 hg hnew hd K hK
      have d3 : v3 = Value.agg #[Value.int IntKind.i64 k2, Value.int IntKind.i64 n2, Value.string s2] := hd 3 v3 (by kernel_rfl) rfl
      subst d3
      have d4 : v4 = Value.agg #[Value.int IntKind.i64 k3, Value.int IntKind.i64 n3, Value.string s3] := hd 4 v4 (by kernel_rfl) rfl
      subst d4
      clear hd
      clear hnew
      rw [if_pos (by kernel_rfl)]
      simp only [puts, Act.put, List.setIfInBounds_toArray, List.set_cons_zero, List.set_cons_succ] at hK ⊢
      go_simp
      refine (CBC.out _).mono ?_
      rintro e w' ⟨rfl, hk⟩
      exact hK _ _ hk rfl (below_below hg hk)
    refine Each.cons (fun vs W hl => ?_) ?_
    · apply with9 hl
      clear hl vs
      intro v0 v1 v2 v3 v4 v5 v6 v7 v8 hg hnew hd K hK
      clear hd
      clear hnew
      rw [if_pos (by kernel_rfl)]
      simp only [puts, Act.put, List.setIfInBounds_toArray, List.set_cons_zero, List.set_cons_succ] at hK ⊢
      have c := HV1.out.keep hg
      have c0 := c.cell 0
      have c1 := c.cell 1
      have c2 := c.cell 2
      simp at c0 c1 c2
      go_simp
      exact hK _ _ (Below.refl _ _) rfl hg
    refine Each.cons (fun vs W hl => ?_) ?_
    · apply with9 hl
      clear hl vs
      intro v0 v1 v2 v3 v4 v5 v6 v7 v8 hg hnew hd K hK
      clear hd
      clear hnew
      rw [if_pos (by kernel_rfl)]
      simp only [puts, Act.put, List.setIfInBounds_toArray, List.set_cons_zero, List.set_cons_succ] at hK ⊢
      have c := HV3.out.keep hg
      have c0 := c.cell 0
      have c1 := c.cell 1
      have c2 := c.cell 2
      simp at c0 c1 c2
      go_simp
      exact hK _ _ (Below.refl _ _) rfl hg
    refine Each.cons (fun vs W hl => ?_) ?_
    · apply with9 hl
      clear hl vs
      intro v0 v1 v2 v3 v4 v5 v6 v7 v8 hg hnew hd K hK
      have d6 : v6 = Value.agg #[Value.int IntKind.i64 k, Value.int IntKind.i64 n, Value.string s] := hd 6 v6 (by kernel_rfl) rfl
      subst d6
      have d7 : v7 = Value.agg #[Value.int IntKind.i64 k3, Value.int IntKind.i64 n3, Value.string s3] := hd 7 v7 (by kernel_rfl) rfl
      subst d7
      clear hd
      clear hnew
      rw [if_pos (by kernel_rfl)]
      simp only [puts, Act.put, List.setIfInBounds_toArray, List.set_cons_zero, List.set_cons_succ] at hK ⊢
      go_simp
      refine (CAC.out _).mono ?_
      rintro e w' ⟨rfl, hk⟩
      exact hK _ _ hk rfl (below_below hg hk)
    exact Each.nil
  · intro vs W hl
    apply with9 hl
    clear hl vs
    intro v0 v1 v2 v3 v4 v5 v6 v7 v8 hg hall
    have d0 : v0 = Value.agg #[Value.int IntKind.i64 k, Value.int IntKind.i64 n, Value.string s] := hall 0 v0 rfl
    subst d0
    have d1 : v1 = Value.agg #[Value.int IntKind.i64 k2, Value.int IntKind.i64 n2, Value.string s2] := hall 1 v1 rfl
    subst d1
    have d2 : v2 = Value.int IntKind.i64 x := hall 2 v2 rfl
    subst d2
    have d3 : v3 = Value.agg #[Value.int IntKind.i64 k2, Value.int IntKind.i64 n2, Value.string s2] := hall 3 v3 rfl
    subst d3
    have d4 : v4 = Value.agg #[Value.int IntKind.i64 k3, Value.int IntKind.i64 n3, Value.string s3] := hall 4 v4 rfl
    subst d4
    have d5 : v5 = Value.int IntKind.i64 y := hall 5 v5 rfl
    subst d5
    have d6 : v6 = Value.agg #[Value.int IntKind.i64 k, Value.int IntKind.i64 n, Value.string s] := hall 6 v6 rfl
    subst d6
    have d7 : v7 = Value.agg #[Value.int IntKind.i64 k3, Value.int IntKind.i64 n3, Value.string s3] := hall 7 v7 rfl
    subst d7
    have d8 : v8 = Value.int IntKind.i64 z := hall 8 v8 rfl
    subst d8
    clear hall
    simp only [puts, Act.put, List.setIfInBounds_toArray, List.set_cons_zero, List.set_cons_succ, List.take_succ_cons, List.take_zero, List.drop_succ_cons, List.drop_zero]
    have HS := hd (below_below B1.out hg)
    have V1 := HV1.out.keep hg
    have V2 := HV2.out.keep hg
    clear hg HV1 HV2 HV3 B1
    generalize W = w5 at *
    have a0 := V1.cell 0
    have a1 := V1.cell 1
    have a2 := V1.cell 2
    have b0 := V2.cell 0
    have b1 := V2.cell 1
    have b2 := V2.cell 2
    simp at a0 a1 a2 b0 b1 b2
    have e24 : ∀ W : World, (Op.equalIn 10000 23 (.agg #[.int .i64 k, .int .i64 n, .string s]) (.agg #[.int .i64 k2, .int .i64 n2, .string s2])).run Try.prog W = .ok (decide (x = 0)) W := fun W => by rw [eq23, HQ.out]
    have HA1 := hd V1
    have HA2 := hd V2
    clear V1 V2
    have hx : x = -1 ∨ x = 0 ∨ x = 1 := by have := HH.out; omega
    have hy := HH.out.2.2.1
    have hz := HH.out.2.2.2.1
    have hd3 : x ≠ 0 → (¬ k = k2 ∨ (k = k2 ∧ ¬ n = n2) ∨ (k = k2 ∧ n = n2 ∧ ¬ s.toList = s2.toList)) := fun hx0 => by
      by_cases e1 : k = k2
      · by_cases e2 : n = n2
        · refine Or.inr (Or.inr ⟨e1, e2, fun e3 => ?_⟩)
          have := HQ.out
          have e3 : s = s2 := (eqs_iff s s2).1 (by rw [← eqs_toList, e3]; exact beq_self_eq_true _)
          rw [decide_eq_false hx0, e1, e2, e3, sameV_self] at this
          cases this
        · exact Or.inr (Or.inl ⟨e1, e2⟩)
      · exact Or.inl e1
    have hd4 : x = 0 → k = k2 ∧ n = n2 ∧ s = s2 := fun hx0 => by
      have := HQ.out
      rw [decide_eq_true hx0] at this
      have := (sameV_iff _ _).1 this
      simpa using this
    clear e24
    have HD3 := hd hd3
    have HD4 := hd hd4
    clear hd3 hd4
    rcases hx with rfl | rfl | rfl
    · rcases HD3.out (by decide) with hne | ⟨hee, hne⟩ | ⟨hee, hff, hne⟩
      all_goals first | subst hee hff | subst hee | skip
      all_goals rcases hy with rfl | rfl | rfl <;> rcases hz with rfl | rfl | rfl <;> first | (exfalso; have := HH.out; omega) | skip
      all_goals
        go_wp2_with fail
        refine (CBA.out _).mono ?_
        rintro e w6 ⟨rfl, hk⟩
        have H6 := hd (below_below HS.out hk)
        have V1 := HA1.out.keep hk
        have V2 := HA2.out.keep hk
        clear hk a0 a1 a2 b0 b1 b2
        have a0 := V1.cell 0
        have a1 := V1.cell 1
        have a2 := V1.cell 2
        have b0 := V2.cell 0
        have b1 := V2.cell 1
        have b2 := V2.cell 2
        simp at a0 a1 a2 b0 b1 b2
        clear V1 V2
        go_wp2_with fail
        go_ret
        exact VEnd.mk H6.out
    · obtain ⟨rfl, rfl, rfl⟩ := HD4.out rfl
      rcases hy with rfl | rfl | rfl <;> rcases hz with rfl | rfl | rfl <;> first | (exfalso; have := HH.out; omega) | skip
      all_goals
        go_wp2_with fail
        refine (CBA.out _).mono ?_
        rintro e w6 ⟨rfl, hk⟩
        have H6 := hd (below_below HS.out hk)
        have V1 := HA1.out.keep hk
        have V2 := HA2.out.keep hk
        clear hk a0 a1 a2 b0 b1 b2
        have a0 := V1.cell 0
        have a1 := V1.cell 1
        have a2 := V1.cell 2
        have b0 := V2.cell 0
        have b1 := V2.cell 1
        have b2 := V2.cell 2
        simp at a0 a1 a2 b0 b1 b2
        clear V1 V2
        go_wp2_with fail
        go_ret
        exact VEnd.mk H6.out
    · rcases HD3.out (by decide) with hne | ⟨hee, hne⟩ | ⟨hee, hff, hne⟩
      all_goals first | subst hee hff | subst hee | skip
      all_goals rcases hy with rfl | rfl | rfl <;> rcases hz with rfl | rfl | rfl <;> first | (exfalso; have := HH.out; omega) | skip
      all_goals
        go_wp2_with fail
        refine (CBA.out _).mono ?_
        rintro e w6 ⟨rfl, hk⟩
        have H6 := hd (below_below HS.out hk)
        have V1 := HA1.out.keep hk
        have V2 := HA2.out.keep hk
        clear hk a0 a1 a2 b0 b1 b2
        have a0 := V1.cell 0
        have a1 := V1.cell 1
        have a2 := V1.cell 2
        have b0 := V2.cell 0
        have b1 := V2.cell 1
        have b2 := V2.cell 2
        simp at a0 a1 a2 b0 b1 b2
        clear V1 V2
        go_wp2_with fail
        go_ret
        exact VEnd.mk H6.out

end Go.Proofs.Ytibnjhnecfcimaa
