/- How two values stand, both sides. -/
import Derived.Test.YtibnjhnecfcimaaMv
import Derived.Test.YtibnjhnecfcimaaMh
import Derived.Test.YtibnjhnecfcimaaVp
import Derived.Lib.Bytealg
namespace Go.Proofs.Ytibnjhnecfcimaa
open Go.RowKit
set_option linter.unusedVariables false

theorem cmpS_eq (s t : ByteArray) : Lib.compareBytes s.data.toList t.data.toList = cmpS s t := by
  have h := cmp_bl s.data.toList t.data.toList
  have k := cmp_bl t.data.toList s.data.toList
  unfold cmpS lts
  cases h1 : Op.bytesLess s.data.toList t.data.toList
  · cases h2 : Op.bytesLess t.data.toList s.data.toList
    · have e := bl_tot _ _ h1 h2
      rw [e]
      simp only [Bool.false_eq_true, if_false]
      exact (cmp_bl t.data.toList t.data.toList).2.1.2 rfl
    · simp only [Bool.false_eq_true, if_false, if_true]
      have n1 : ¬ Lib.compareBytes s.data.toList t.data.toList < 0 := fun e => by rw [h.1.1 e] at h1; cases h1
      have n2 : ¬ Lib.compareBytes s.data.toList t.data.toList = 0 := fun e => by
        have e := h.2.1.1 e
        rw [e, bl_irr] at h2
        cases h2
      have := h.2.2.2
      omega
  · simp only [if_true]
    have n1 := h.1.2 h1
    have := h.2.2.1
    omega

set_option maxRecDepth 100000 in
set_option maxHeartbeats 400000 in
theorem bcmp_any (s t : ByteArray) (w : World) : Calls Try.prog 86 #[.string s, .string t] w fun e w' => e = .returned (.int .i64 (cmpS s t)) ∧ w' = w := by
  rw [← cmpS_eq]
  go_enter Try.func86, Try.ntmps86
  go_wp2
  rw [run_callFunc_extern Try.func102 (by kernel_rfl) (by kernel_rfl) (by kernel_rfl) (e := Extern.BytealgCompare.compare) (by kernel_rfl), Lib.run_compareString]
  simp only [Result.andThen]
  rw [Oper.upon_value]
  go_wp2
  go_ret
  exact ⟨rfl, rfl⟩
set_option maxRecDepth 100000 in
set_option maxHeartbeats 400000 in
theorem scmp_any (s t : ByteArray) (w : World) : Calls Try.prog 51 #[.string s, .string t] w fun e w' => e = .returned (.int .i64 (cmpS s t)) ∧ w' = w := by
  go_enter Try.func51, Try.ntmps51
  go_wp2_with (go_at_call 86; refine (bcmp_any _ _ _).mono ?_; rintro e w' ⟨rfl, rfl⟩)
  go_ret
  exact ⟨rfl, rfl⟩
set_option maxHeartbeats 400000 in
theorem nan_any (x : Int) (w : World) : Calls Try.prog 85 #[.int .i64 x] w fun e w' => e = .returned (.bool false) ∧ w' = w := by
  go_enter Try.func85, Try.ntmps85
  go_wp2
  go_ret
  exact ⟨by simp, rfl⟩
theorem cmpI_lt {x y : Int} (h : x < y) : cmpI x y = -1 := by unfold cmpI; rw [if_pos h]
theorem cmpI_gt {x y : Int} (h : y < x) : cmpI x y = 1 := by unfold cmpI; rw [if_neg (by omega), if_pos h]
theorem cmpI_eq (x : Int) : cmpI x x = 0 := by unfold cmpI; rw [if_neg (by omega), if_neg (by omega)]
set_option maxRecDepth 100000 in
set_option maxHeartbeats 1000000 in
theorem icmp_any (x y : Int) (w : World) : Calls Try.prog 50 #[.int .i64 x, .int .i64 y] w fun e w' => e = .returned (.int .i64 (cmpI x y)) ∧ w' = w := by
  by_cases h1 : x < y
  · rw [cmpI_lt h1]
    go_enter Try.func50, Try.ntmps50
    go_wp2_with (go_at_call 85; refine (nan_any _ _).mono ?_; rintro e w' ⟨rfl, rfl⟩)
    go_ret
    exact ⟨rfl, rfl⟩
  · by_cases h2 : y < x
    · rw [cmpI_gt h2]
      go_enter Try.func50, Try.ntmps50
      go_wp2_with (go_at_call 85; refine (nan_any _ _).mono ?_; rintro e w' ⟨rfl, rfl⟩)
      go_ret
      exact ⟨rfl, rfl⟩
    · have e : x = y := by omega
      subst e
      rw [cmpI_eq]
      go_enter Try.func50, Try.ntmps50
      go_wp2_with (go_at_call 85; refine (nan_any _ _).mono ?_; rintro e w' ⟨rfl, rfl⟩)
      go_ret
      exact ⟨rfl, rfl⟩

set_option maxRecDepth 100000 in
set_option maxHeartbeats 2000000 in
theorem or_any {w : World} {g : Nat} {x y z : Int} (h : Bk w g 3 #[.int .i64 x, .int .i64 y, .int .i64 z]) : Calls Try.prog 49 #[.slice (some ⟨g, 0, none⟩) 3 3] w fun e w' => e = .returned (.int .i64 (orI' x (orI' y z))) ∧ w' = w := by
  have c0 := h.cell 0
  have c1 := h.cell 1
  have c2 := h.cell 2
  simp at c0 c1 c2
  clear h
  by_cases hx : x = 0
  · subst hx
    by_cases hy : y = 0
    · subst hy
      have e : orI' 0 (orI' 0 z) = z := rfl
      rw [e]
      clear e
      by_cases hz : z = 0
      · subst hz
        go_enter Try.func49, Try.ntmps49
        go_wp2
        refine wp_loop_rounds 4 ?_
        iterate 4
          rw [rounds_succ]
          go_wp2
        go_ret
        exact ⟨rfl, rfl⟩
      · go_enter Try.func49, Try.ntmps49
        go_wp2
        refine wp_loop_rounds 4 ?_
        iterate 3
          rw [rounds_succ]
          go_wp2
        go_ret
        exact ⟨rfl, rfl⟩
    · have e : orI' 0 (orI' y z) = y := by unfold orI'; rw [if_neg (by simp), if_pos hy]
      rw [e]
      clear e
      go_enter Try.func49, Try.ntmps49
      go_wp2
      refine wp_loop_rounds 4 ?_
      iterate 2
        rw [rounds_succ]
        go_wp2
      go_ret
      exact ⟨rfl, rfl⟩
  · have e : orI' x (orI' y z) = x := by unfold orI'; rw [if_pos hx]
    rw [e]
    clear e
    go_enter Try.func49, Try.ntmps49
    go_wp2
    refine wp_loop_rounds 4 ?_
    rw [rounds_succ]
    go_wp2
    go_ret
    exact ⟨rfl, rfl⟩

set_option maxHeartbeats 400000 in
theorem three_is (b1 b2 : Bool) (z : Int) (h : (if b1 then (-1 : Int) else if b2 then 1 else 0) = z) (w : World) : Calls Try.prog 52 #[.bool b1, .bool b2] w fun e w' => e = .returned (.int .i64 z) ∧ w' = w := by
  subst h
  cases b1
  · cases b2
    all_goals
      go_enter Try.func52, Try.ntmps52
      go_wp2
      go_ret
      exact ⟨rfl, rfl⟩
  · go_enter Try.func52, Try.ntmps52
    go_wp2
    go_ret
    exact ⟨rfl, rfl⟩
theorem three_int (x y : Int) : (if decide (x < y) then (-1 : Int) else if decide (y < x) then 1 else 0) = cmpI x y := by unfold cmpI; simp
theorem three_str (s t : ByteArray) : (if Op.bytesLess s.toList t.toList then (-1 : Int) else if (!Op.bytesLess s.toList t.toList && !s.toList == t.toList) then 1 else 0) = cmpS s t := by
  rw [ByteArray.toList_eq, ByteArray.toList_eq]
  show (if lts s t then (-1 : Int) else if (!lts s t && !eqs s t) then 1 else 0) = cmpS s t
  unfold cmpS
  cases h : lts s t
  · cases k : lts t s
    · rw [lts_tot h k, eqs_self]; rfl
    · rw [eqs_false (lts_ne k).symm]; rfl
  · rfl

set_option maxRecDepth 100000 in
set_option maxHeartbeats 4000000 in
theorem cmp_cells (k n : Int) (s : ByteArray) (k2 n2 : Int) (s2 : ByteArray) (w : World) : Calls Try.prog 17 #[.agg #[.int .i64 k, .int .i64 n, .string s], .agg #[.int .i64 k2, .int .i64 n2, .string s2]] w fun e w' => VEnd w (.int .i64 (cmpV (k, n, s) (k2, n2, s2))) e w' := by
  have hv : cmpV (k, n, s) (k2, n2, s2) = orI' (cmpI k k2) (orI' (cmpI n n2) (cmpS s s2)) := rfl
  rw [hv]
  clear hv
  have C1 : Hid (∀ w, Calls Try.prog 50 #[.int .i64 k, .int .i64 k2] w fun e w' => e = .returned (.int .i64 (cmpI k k2)) ∧ w' = w) := hd (fun w => icmp_any _ _ w)
  have C2 : Hid (∀ w, Calls Try.prog 50 #[.int .i64 n, .int .i64 n2] w fun e w' => e = .returned (.int .i64 (cmpI n n2)) ∧ w' = w) := hd (fun w => icmp_any _ _ w)
  have C3 : Hid (∀ w, Calls Try.prog 51 #[.string s, .string s2] w fun e w' => e = .returned (.int .i64 (cmpS s s2)) ∧ w' = w) := hd (fun w => scmp_any _ _ w)
  generalize cmpI k k2 = z1 at *
  generalize cmpI n n2 = z2 at *
  generalize cmpS s s2 = z3 at *
  go_enter Try.func17, Try.ntmps17
  go_wp2_with fail
  have V1 := Bk.new w 23 #[Value.int IntKind.i64 k, Value.int IntKind.i64 n, Value.string s]
  have B1 := below1 w (Obj.cells #[Value.int IntKind.i64 k, Value.int IntKind.i64 n, Value.string s] 23)
  have hs1 : (w.alloc (Obj.cells #[Value.int IntKind.i64 k, Value.int IntKind.i64 n, Value.string s] 23)).heap.size = w.heap.size + 1 := by simp
  generalize w.alloc (Obj.cells #[Value.int IntKind.i64 k, Value.int IntKind.i64 n, Value.string s] 23) = w1 at *
  have V2 := Bk.new w1 23 #[Value.int IntKind.i64 k2, Value.int IntKind.i64 n2, Value.string s2]
  have B2 := below_below B1 (below1 w1 (Obj.cells #[Value.int IntKind.i64 k2, Value.int IntKind.i64 n2, Value.string s2] 23))
  have V1' := V1.keep (below1 w1 (Obj.cells #[Value.int IntKind.i64 k2, Value.int IntKind.i64 n2, Value.string s2] 23))
  rw [hs1] at V2
  generalize w1.alloc (Obj.cells #[Value.int IntKind.i64 k2, Value.int IntKind.i64 n2, Value.string s2] 23) = w2 at *
  generalize hga : w.heap.size = ga at *
  have HGA := hd hga
  clear hga hs1 V1 B1
  have HV1 := hd V1'
  have HV2 := hd V2
  have HB2 := hd B2
  clear V1' V2 B2
  refine wp_region_each 16 (fun W W' => Below W.heap.size W W') (fun i v W => match i with | 0 => v = Value.pointer (some ⟨ga, 0, none⟩) | 1 => v = Value.int IntKind.i64 k | 2 => v = Value.pointer (some ⟨ga + 1, 0, none⟩) | 3 => v = Value.int IntKind.i64 k2 | 4 => v = Value.int IntKind.i64 z1 | 5 => v = Value.pointer (some ⟨ga, 1, none⟩) | 6 => v = Value.int IntKind.i64 n | 7 => v = Value.pointer (some ⟨ga + 1, 1, none⟩) | 8 => v = Value.int IntKind.i64 n2 | 9 => v = Value.int IntKind.i64 z2 | 10 => v = Value.pointer (some ⟨ga, 2, none⟩) | 11 => v = Value.string s | 12 => v = Value.pointer (some ⟨ga + 1, 2, none⟩) | 13 => v = Value.string s2 | 14 => v = Value.int IntKind.i64 z3 | 15 => (∃ gs, v = Value.slice (some ⟨gs, 0, none⟩) 3 3 ∧ Bk W gs 3 #[Value.int IntKind.i64 z1, Value.int IntKind.i64 z2, Value.int IntKind.i64 z3]) | _ => True) (fun vs W => Below w2.heap.size w2 W) (by kernel_rfl) (by kernel_rfl) (fun j v W W' hE h => by
    match j with
    | 0 => exact h
    | 1 => exact h
    | 2 => exact h
    | 3 => exact h
    | 4 => exact h
    | 5 => exact h
    | 6 => exact h
    | 7 => exact h
    | 8 => exact h
    | 9 => exact h
    | 10 => exact h
    | 11 => exact h
    | 12 => exact h
    | 13 => exact h
    | 14 => exact h
    | 15 => exact ⟨h.choose, h.choose_spec.1, h.choose_spec.2.keep hE⟩
    | _ + 16 => trivial) ((Below.refl _ _).drew) ?_ ?_
  · simp only [List.take_succ_cons, List.take_zero]
    refine Each.cons (fun vs W hl => ?_) ?_
    · apply with16 hl
      clear hl vs
      intro v0 v1 v2 v3 v4 v5 v6 v7 v8 v9 v10 v11 v12 v13 v14 v15 hg hnew hd K hK
      clear hd
      clear hnew
      rw [if_pos (by kernel_rfl)]
      simp only [puts, Act.put, List.setIfInBounds_toArray, List.set_cons_zero, List.set_cons_succ] at hK ⊢
      go_simp
      exact hK _ _ (Below.refl _ _) rfl hg
    refine Each.cons (fun vs W hl => ?_) ?_
    · apply with16 hl
      clear hl vs
      intro v0 v1 v2 v3 v4 v5 v6 v7 v8 v9 v10 v11 v12 v13 v14 v15 hg hnew hd K hK
      have d0 : v0 = Value.pointer (some ⟨ga, 0, none⟩) := hd 0 v0 (by kernel_rfl) rfl
      subst d0
      clear hd
      clear hnew
      rw [if_pos (by kernel_rfl)]
      simp only [puts, Act.put, List.setIfInBounds_toArray, List.set_cons_zero, List.set_cons_succ] at hK ⊢
      have c := (HV1.out.keep hg).cell 0
      simp at c
      go_simp
      exact hK _ _ (Below.refl _ _) rfl hg
    refine Each.cons (fun vs W hl => ?_) ?_
    · apply with16 hl
      clear hl vs
      intro v0 v1 v2 v3 v4 v5 v6 v7 v8 v9 v10 v11 v12 v13 v14 v15 hg hnew hd K hK
      clear hd
      clear hnew
      rw [if_pos (by kernel_rfl)]
      simp only [puts, Act.put, List.setIfInBounds_toArray, List.set_cons_zero, List.set_cons_succ] at hK ⊢
      go_simp
      exact hK _ _ (Below.refl _ _) rfl hg
    refine Each.cons (fun vs W hl => ?_) ?_
    · apply with16 hl
      clear hl vs
      intro v0 v1 v2 v3 v4 v5 v6 v7 v8 v9 v10 v11 v12 v13 v14 v15 hg hnew hd K hK
      have d2 : v2 = Value.pointer (some ⟨ga + 1, 0, none⟩) := hd 2 v2 (by kernel_rfl) rfl
      subst d2
      clear hd
      clear hnew
      rw [if_pos (by kernel_rfl)]
      simp only [puts, Act.put, List.setIfInBounds_toArray, List.set_cons_zero, List.set_cons_succ] at hK ⊢
      have c := (HV2.out.keep hg).cell 0
      simp at c
      go_simp
      exact hK _ _ (Below.refl _ _) rfl hg
    refine Each.cons (fun vs W hl => ?_) ?_
    · apply with16 hl
      clear hl vs
      intro v0 v1 v2 v3 v4 v5 v6 v7 v8 v9 v10 v11 v12 v13 v14 v15 hg hnew hd K hK
      have d1 : v1 = Value.int IntKind.i64 k := hd 1 v1 (by kernel_rfl) rfl
      subst d1
      have d3 : v3 = Value.int IntKind.i64 k2 := hd 3 v3 (by kernel_rfl) rfl
      subst d3
      clear hd
      clear hnew
      rw [if_pos (by kernel_rfl)]
      simp only [puts, Act.put, List.setIfInBounds_toArray, List.set_cons_zero, List.set_cons_succ] at hK ⊢
      go_simp
      refine (C1.out _).mono ?_
      rintro e w3 ⟨rfl, rfl⟩
      exact hK _ _ (Below.refl _ _) rfl hg
    refine Each.cons (fun vs W hl => ?_) ?_
    · apply with16 hl
      clear hl vs
      intro v0 v1 v2 v3 v4 v5 v6 v7 v8 v9 v10 v11 v12 v13 v14 v15 hg hnew hd K hK
      clear hd
      clear hnew
      rw [if_pos (by kernel_rfl)]
      simp only [puts, Act.put, List.setIfInBounds_toArray, List.set_cons_zero, List.set_cons_succ] at hK ⊢
      go_simp
      exact hK _ _ (Below.refl _ _) rfl hg
    refine Each.cons (fun vs W hl => ?_) ?_
    · apply with16 hl
      clear hl vs
      intro v0 v1 v2 v3 v4 v5 v6 v7 v8 v9 v10 v11 v12 v13 v14 v15 hg hnew hd K hK
      have d5 : v5 = Value.pointer (some ⟨ga, 1, none⟩) := hd 5 v5 (by kernel_rfl) rfl
      subst d5
      clear hd
      clear hnew
      rw [if_pos (by kernel_rfl)]
      simp only [puts, Act.put, List.setIfInBounds_toArray, List.set_cons_zero, List.set_cons_succ] at hK ⊢
      have c := (HV1.out.keep hg).cell 1
      simp at c
      go_simp
      exact hK _ _ (Below.refl _ _) rfl hg
    refine Each.cons (fun vs W hl => ?_) ?_
    · apply with16 hl
      clear hl vs
      intro v0 v1 v2 v3 v4 v5 v6 v7 v8 v9 v10 v11 v12 v13 v14 v15 hg hnew hd K hK
      clear hd
      clear hnew
      rw [if_pos (by kernel_rfl)]
      simp only [puts, Act.put, List.setIfInBounds_toArray, List.set_cons_zero, List.set_cons_succ] at hK ⊢
      go_simp
      exact hK _ _ (Below.refl _ _) rfl hg
    refine Each.cons (fun vs W hl => ?_) ?_
    · apply with16 hl
      clear hl vs
      intro v0 v1 v2 v3 v4 v5 v6 v7 v8 v9 v10 v11 v12 v13 v14 v15 hg hnew hd K hK
      have d7 : v7 = Value.pointer (some ⟨ga + 1, 1, none⟩) := hd 7 v7 (by kernel_rfl) rfl
      subst d7
      clear hd
      clear hnew
      rw [if_pos (by kernel_rfl)]
      simp only [puts, Act.put, List.setIfInBounds_toArray, List.set_cons_zero, List.set_cons_succ] at hK ⊢
      have c := (HV2.out.keep hg).cell 1
      simp at c
      go_simp
      exact hK _ _ (Below.refl _ _) rfl hg
    refine Each.cons (fun vs W hl => ?_) ?_
    · apply with16 hl
      clear hl vs
      intro v0 v1 v2 v3 v4 v5 v6 v7 v8 v9 v10 v11 v12 v13 v14 v15 hg hnew hd K hK
      have d6 : v6 = Value.int IntKind.i64 n := hd 6 v6 (by kernel_rfl) rfl
      subst d6
      have d8 : v8 = Value.int IntKind.i64 n2 := hd 8 v8 (by kernel_rfl) rfl
      subst d8
      clear hd
      clear hnew
      rw [if_pos (by kernel_rfl)]
      simp only [puts, Act.put, List.setIfInBounds_toArray, List.set_cons_zero, List.set_cons_succ] at hK ⊢
      go_simp
      refine (C2.out _).mono ?_
      rintro e w3 ⟨rfl, rfl⟩
      exact hK _ _ (Below.refl _ _) rfl hg
    refine Each.cons (fun vs W hl => ?_) ?_
    · apply with16 hl
      clear hl vs
      intro v0 v1 v2 v3 v4 v5 v6 v7 v8 v9 v10 v11 v12 v13 v14 v15 hg hnew hd K hK
      clear hd
      clear hnew
      rw [if_pos (by kernel_rfl)]
      simp only [puts, Act.put, List.setIfInBounds_toArray, List.set_cons_zero, List.set_cons_succ] at hK ⊢
      go_simp
      exact hK _ _ (Below.refl _ _) rfl hg
    refine Each.cons (fun vs W hl => ?_) ?_
    · apply with16 hl
      clear hl vs
      intro v0 v1 v2 v3 v4 v5 v6 v7 v8 v9 v10 v11 v12 v13 v14 v15 hg hnew hd K hK
      have d10 : v10 = Value.pointer (some ⟨ga, 2, none⟩) := hd 10 v10 (by kernel_rfl) rfl
      subst d10
      clear hd
      clear hnew
      rw [if_pos (by kernel_rfl)]
      simp only [puts, Act.put, List.setIfInBounds_toArray, List.set_cons_zero, List.set_cons_succ] at hK ⊢
      have c := (HV1.out.keep hg).cell 2
      simp at c
      go_simp
      exact hK _ _ (Below.refl _ _) rfl hg
    refine Each.cons (fun vs W hl => ?_) ?_
    · apply with16 hl
      clear hl vs
      intro v0 v1 v2 v3 v4 v5 v6 v7 v8 v9 v10 v11 v12 v13 v14 v15 hg hnew hd K hK
      clear hd
      clear hnew
      rw [if_pos (by kernel_rfl)]
      simp only [puts, Act.put, List.setIfInBounds_toArray, List.set_cons_zero, List.set_cons_succ] at hK ⊢
      go_simp
      exact hK _ _ (Below.refl _ _) rfl hg
    refine Each.cons (fun vs W hl => ?_) ?_
    · apply with16 hl
      clear hl vs
      intro v0 v1 v2 v3 v4 v5 v6 v7 v8 v9 v10 v11 v12 v13 v14 v15 hg hnew hd K hK
      have d12 : v12 = Value.pointer (some ⟨ga + 1, 2, none⟩) := hd 12 v12 (by kernel_rfl) rfl
      subst d12
      clear hd
      clear hnew
      rw [if_pos (by kernel_rfl)]
      simp only [puts, Act.put, List.setIfInBounds_toArray, List.set_cons_zero, List.set_cons_succ] at hK ⊢
      have c := (HV2.out.keep hg).cell 2
      simp at c
      go_simp
      exact hK _ _ (Below.refl _ _) rfl hg
    refine Each.cons (fun vs W hl => ?_) ?_
    · apply with16 hl
      clear hl vs
      intro v0 v1 v2 v3 v4 v5 v6 v7 v8 v9 v10 v11 v12 v13 v14 v15 hg hnew hd K hK
      have d11 : v11 = Value.string s := hd 11 v11 (by kernel_rfl) rfl
      subst d11
      have d13 : v13 = Value.string s2 := hd 13 v13 (by kernel_rfl) rfl
      subst d13
      clear hd
      clear hnew
      rw [if_pos (by kernel_rfl)]
      simp only [puts, Act.put, List.setIfInBounds_toArray, List.set_cons_zero, List.set_cons_succ] at hK ⊢
      go_simp
      refine (C3.out _).mono ?_
      rintro e w3 ⟨rfl, rfl⟩
      exact hK _ _ (Below.refl _ _) rfl hg
    refine Each.cons (fun vs W hl => ?_) ?_
    · apply with16 hl
      clear hl vs
      intro v0 v1 v2 v3 v4 v5 v6 v7 v8 v9 v10 v11 v12 v13 v14 v15 hg hnew hd K hK
      have d4 : v4 = Value.int IntKind.i64 z1 := hd 4 v4 (by kernel_rfl) rfl
      subst d4
      have d9 : v9 = Value.int IntKind.i64 z2 := hd 9 v9 (by kernel_rfl) rfl
      subst d9
      have d14 : v14 = Value.int IntKind.i64 z3 := hd 14 v14 (by kernel_rfl) rfl
      subst d14
      clear hd
      clear hnew
      rw [if_pos (by kernel_rfl)]
      simp only [puts, Act.put, List.setIfInBounds_toArray, List.set_cons_zero, List.set_cons_succ] at hK ⊢
      go_simp
      exact hK _ _ (below1 _ _) ⟨_, rfl, Bk.new _ _ _⟩ (below_below hg (below1 _ _))
    exact Each.nil
  · intro vs W hl
    apply with16 hl
    clear hl vs
    intro v0 v1 v2 v3 v4 v5 v6 v7 v8 v9 v10 v11 v12 v13 v14 v15 hg hall
    have d0 : v0 = Value.pointer (some ⟨ga, 0, none⟩) := hall 0 v0 rfl
    subst d0
    have d1 : v1 = Value.int IntKind.i64 k := hall 1 v1 rfl
    subst d1
    have d2 : v2 = Value.pointer (some ⟨ga + 1, 0, none⟩) := hall 2 v2 rfl
    subst d2
    have d3 : v3 = Value.int IntKind.i64 k2 := hall 3 v3 rfl
    subst d3
    have d4 : v4 = Value.int IntKind.i64 z1 := hall 4 v4 rfl
    subst d4
    have d5 : v5 = Value.pointer (some ⟨ga, 1, none⟩) := hall 5 v5 rfl
    subst d5
    have d6 : v6 = Value.int IntKind.i64 n := hall 6 v6 rfl
    subst d6
    have d7 : v7 = Value.pointer (some ⟨ga + 1, 1, none⟩) := hall 7 v7 rfl
    subst d7
    have d8 : v8 = Value.int IntKind.i64 n2 := hall 8 v8 rfl
    subst d8
    have d9 : v9 = Value.int IntKind.i64 z2 := hall 9 v9 rfl
    subst d9
    have d10 : v10 = Value.pointer (some ⟨ga, 2, none⟩) := hall 10 v10 rfl
    subst d10
    have d11 : v11 = Value.string s := hall 11 v11 rfl
    subst d11
    have d12 : v12 = Value.pointer (some ⟨ga + 1, 2, none⟩) := hall 12 v12 rfl
    subst d12
    have d13 : v13 = Value.string s2 := hall 13 v13 rfl
    subst d13
    have d14 : v14 = Value.int IntKind.i64 z3 := hall 14 v14 rfl
    subst d14
    have d15 : (∃ gs, v15 = Value.slice (some ⟨gs, 0, none⟩) 3 3 ∧ Bk W gs 3 #[Value.int IntKind.i64 z1, Value.int IntKind.i64 z2, Value.int IntKind.i64 z3]) := hall 15 v15 rfl
    clear hall
    simp only [puts, Act.put, List.setIfInBounds_toArray, List.set_cons_zero, List.set_cons_succ, List.take_succ_cons, List.take_zero, List.drop_succ_cons, List.drop_zero]
    obtain ⟨gs, rfl, hgs⟩ := d15
    have HGS := hd hgs
    have HBL := hd (HB2.out.trans (hg.mono (by rw [← HGA.out]; exact HB2.out.size)))
    clear hgs
    go_wp2_with (go_at_call 49; refine (or_any HGS.out).mono ?_; rintro e w5 ⟨rfl, rfl⟩)
    go_ret
    refine VEnd.mk ?_
    rw [HGA.out]
    exact HBL.out

theorem cmp_any (a b : ValD) (w : World) : Calls Try.prog 17 #[V3 a, V3 b] w fun e w' => VEnd w (.int .i64 (cmpV a b)) e w' := cmp_cells _ _ _ _ _ _ w

set_option maxRecDepth 100000 in
set_option maxHeartbeats 4000000 in
theorem rcmp_cells (k n : Int) (s : ByteArray) (k2 n2 : Int) (s2 : ByteArray) (w : World) : Calls Try.prog 18 #[.agg #[.int .i64 k, .int .i64 n, .string s], .agg #[.int .i64 k2, .int .i64 n2, .string s2]] w fun e w' => VEnd w (.int .i64 (cmpV (k, n, s) (k2, n2, s2))) e w' := by
  have hv : cmpV (k, n, s) (k2, n2, s2) = orI' (cmpI k k2) (orI' (cmpI n n2) (cmpS s s2)) := rfl
  rw [hv]
  clear hv
  have C1 : Hid (∀ w, Calls Try.prog 52 #[.bool (decide (k < k2)), .bool (decide (k2 < k))] w fun e w' => e = .returned (.int .i64 (cmpI k k2)) ∧ w' = w) := hd (fun w => three_is _ _ _ (three_int _ _) w)
  have C2 : Hid (∀ w, Calls Try.prog 52 #[.bool (decide (n < n2)), .bool (decide (n2 < n))] w fun e w' => e = .returned (.int .i64 (cmpI n n2)) ∧ w' = w) := hd (fun w => three_is _ _ _ (three_int _ _) w)
  have C3 : Hid (∀ w, Calls Try.prog 52 #[.bool (Op.bytesLess s.toList s2.toList), .bool (!Op.bytesLess s.toList s2.toList && !s.toList == s2.toList)] w fun e w' => e = .returned (.int .i64 (cmpS s s2)) ∧ w' = w) := hd (fun w => three_is _ _ _ (three_str _ _) w)
  generalize cmpI k k2 = z1 at *
  generalize cmpI n n2 = z2 at *
  generalize cmpS s s2 = z3 at *
  have arm : True := trivial
  by_cases h1 : z1 = 0
  · subst h1
    by_cases h2 : z2 = 0
    · subst h2
      have e : orI' 0 (orI' 0 z3) = z3 := rfl
      rw [e]
      clear e
      go_enter Try.func18, Try.ntmps18
      go_wp2_with (go_at_call 52; (first | refine (C1.out _).mono ?_ | refine (C2.out _).mono ?_ | refine (C3.out _).mono ?_); rintro e w' ⟨rfl, rfl⟩)
      go_ret
      exact VEnd.mk (below2 _ _ _)
    · have e : orI' 0 (orI' z2 z3) = z2 := by unfold orI'; rw [if_neg (by simp), if_pos h2]
      rw [e]
      clear e
      go_enter Try.func18, Try.ntmps18
      go_wp2_with (go_at_call 52; (first | refine (C1.out _).mono ?_ | refine (C2.out _).mono ?_ | refine (C3.out _).mono ?_); rintro e w' ⟨rfl, rfl⟩)
      go_ret
      exact VEnd.mk (below2 _ _ _)
  · have e : orI' z1 (orI' z2 z3) = z1 := by unfold orI'; rw [if_pos h1]
    rw [e]
    clear e
    go_enter Try.func18, Try.ntmps18
    go_wp2_with (go_at_call 52; (first | refine (C1.out _).mono ?_ | refine (C2.out _).mono ?_ | refine (C3.out _).mono ?_); rintro e w' ⟨rfl, rfl⟩)
    go_ret
    exact VEnd.mk (below2 _ _ _)
theorem rcmp_any (a b : ValD) (w : World) : Calls Try.prog 18 #[V3 a, V3 b] w fun e w' => VEnd w (.int .i64 (cmpV a b)) e w' := rcmp_cells _ _ _ _ _ _ w

end Go.Proofs.Ytibnjhnecfcimaa
