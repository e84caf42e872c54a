/- Plain mathematics: bytes that tell a number are the number's bytes. -/
import Derived.Test.YtcgimbomandjfabRt
namespace Go.Proofs.Ytcgimbomandjfab.Num
set_option linter.unusedVariables false

theorem list_split : ∀ (k : Nat) (l : List Int), k ≤ l.length → ∃ h r, l = h ++ r ∧ h.length = k
  | k, l, h => ⟨l.take k, l.drop k, (List.take_append_drop k l).symm, by rw [List.length_take]; omega⟩

theorem again1 (x n : Int) (r : List Int) (hx : 0 ≤ x ∧ x ≤ 255) (ht : told x = 1) (hv : V ([x] ++ r) 1 0 = n) (hs : sz n = 1) : enc n = [x] := by
  have hr : x < 128 := by
    unfold told at ht
    repeat' split at ht
    all_goals omega
  have g0 : ([x] ++ r).getD 0 0 = x := rfl
  simp only [V, g0] at hv
  unfold head at hv
  simp only [Nat.reduceEqDiff, if_true, if_false] at hv
  have hc := sz_cases n (by omega)
  rw [enc1 n (by omega)]
  simp only [List.cons.injEq, and_true]
  omega

theorem again2 (x y1 n : Int) (r : List Int) (hx : 0 ≤ x ∧ x ≤ 255) (hy1 : 0 ≤ y1 ∧ y1 ≤ 255) (ht : told x = 2) (hv : V ([x, y1] ++ r) 2 1 = n) (hs : sz n = 2) : enc n = [x, y1] := by
  have hr : 128 ≤ x ∧ x < 192 := by
    unfold told at ht
    repeat' split at ht
    all_goals omega
  have g0 : ([x, y1] ++ r).getD 0 0 = x := rfl
  have g1 : ([x, y1] ++ r).getD 1 0 = y1 := rfl
  simp only [V, Nat.zero_add, g0, g1] at hv
  unfold head at hv
  simp only [Nat.reduceEqDiff, if_true, if_false] at hv
  have hc := sz_cases n (by omega)
  rw [enc2 n (by omega) (by omega)]
  simp only [List.cons.injEq, and_true]
  omega

theorem again3 (x y1 y2 n : Int) (r : List Int) (hx : 0 ≤ x ∧ x ≤ 255) (hy1 : 0 ≤ y1 ∧ y1 ≤ 255) (hy2 : 0 ≤ y2 ∧ y2 ≤ 255) (ht : told x = 3) (hv : V ([x, y1, y2] ++ r) 3 2 = n) (hs : sz n = 3) : enc n = [x, y1, y2] := by
  have hr : 192 ≤ x ∧ x < 224 := by
    unfold told at ht
    repeat' split at ht
    all_goals omega
  have g0 : ([x, y1, y2] ++ r).getD 0 0 = x := rfl
  have g1 : ([x, y1, y2] ++ r).getD 1 0 = y1 := rfl
  have g2 : ([x, y1, y2] ++ r).getD 2 0 = y2 := rfl
  simp only [V, Nat.reduceAdd, Nat.zero_add, g0, g1, g2] at hv
  unfold head at hv
  simp only [Nat.reduceEqDiff, if_true, if_false] at hv
  have hc := sz_cases n (by omega)
  rw [enc3 n (by omega) (by omega)]
  simp only [List.cons.injEq, and_true]
  omega

theorem again4 (x y1 y2 y3 n : Int) (r : List Int) (hx : 0 ≤ x ∧ x ≤ 255) (hy1 : 0 ≤ y1 ∧ y1 ≤ 255) (hy2 : 0 ≤ y2 ∧ y2 ≤ 255) (hy3 : 0 ≤ y3 ∧ y3 ≤ 255) (ht : told x = 4) (hv : V ([x, y1, y2, y3] ++ r) 4 3 = n) (hs : sz n = 4) : enc n = [x, y1, y2, y3] := by
  have hr : 224 ≤ x ∧ x < 240 := by
    unfold told at ht
    repeat' split at ht
    all_goals omega
  have g0 : ([x, y1, y2, y3] ++ r).getD 0 0 = x := rfl
  have g1 : ([x, y1, y2, y3] ++ r).getD 1 0 = y1 := rfl
  have g2 : ([x, y1, y2, y3] ++ r).getD 2 0 = y2 := rfl
  have g3 : ([x, y1, y2, y3] ++ r).getD 3 0 = y3 := rfl
  simp only [V, Nat.reduceAdd, Nat.zero_add, g0, g1, g2, g3] at hv
  unfold head at hv
  simp only [Nat.reduceEqDiff, if_true, if_false] at hv
  have hc := sz_cases n (by omega)
  rw [enc4 n (by omega) (by omega)]
  simp only [List.cons.injEq, and_true]
  omega

theorem again5 (x y1 y2 y3 y4 n : Int) (r : List Int) (hx : 0 ≤ x ∧ x ≤ 255) (hy1 : 0 ≤ y1 ∧ y1 ≤ 255) (hy2 : 0 ≤ y2 ∧ y2 ≤ 255) (hy3 : 0 ≤ y3 ∧ y3 ≤ 255) (hy4 : 0 ≤ y4 ∧ y4 ≤ 255) (ht : told x = 5) (hv : V ([x, y1, y2, y3, y4] ++ r) 5 4 = n) (hs : sz n = 5) : enc n = [x, y1, y2, y3, y4] := by
  have hr : 240 ≤ x ∧ x < 248 := by
    unfold told at ht
    repeat' split at ht
    all_goals omega
  have g0 : ([x, y1, y2, y3, y4] ++ r).getD 0 0 = x := rfl
  have g1 : ([x, y1, y2, y3, y4] ++ r).getD 1 0 = y1 := rfl
  have g2 : ([x, y1, y2, y3, y4] ++ r).getD 2 0 = y2 := rfl
  have g3 : ([x, y1, y2, y3, y4] ++ r).getD 3 0 = y3 := rfl
  have g4 : ([x, y1, y2, y3, y4] ++ r).getD 4 0 = y4 := rfl
  simp only [V, Nat.reduceAdd, Nat.zero_add, g0, g1, g2, g3, g4] at hv
  unfold head at hv
  simp only [Nat.reduceEqDiff, if_true, if_false] at hv
  have hc := sz_cases n (by omega)
  rw [enc5 n (by omega) (by omega)]
  simp only [List.cons.injEq, and_true]
  omega

theorem again6 (x y1 y2 y3 y4 y5 n : Int) (r : List Int) (hx : 0 ≤ x ∧ x ≤ 255) (hy1 : 0 ≤ y1 ∧ y1 ≤ 255) (hy2 : 0 ≤ y2 ∧ y2 ≤ 255) (hy3 : 0 ≤ y3 ∧ y3 ≤ 255) (hy4 : 0 ≤ y4 ∧ y4 ≤ 255) (hy5 : 0 ≤ y5 ∧ y5 ≤ 255) (ht : told x = 6) (hv : V ([x, y1, y2, y3, y4, y5] ++ r) 6 5 = n) (hs : sz n = 6) : enc n = [x, y1, y2, y3, y4, y5] := by
  have hr : 248 ≤ x ∧ x < 252 := by
    unfold told at ht
    repeat' split at ht
    all_goals omega
  have g0 : ([x, y1, y2, y3, y4, y5] ++ r).getD 0 0 = x := rfl
  have g1 : ([x, y1, y2, y3, y4, y5] ++ r).getD 1 0 = y1 := rfl
  have g2 : ([x, y1, y2, y3, y4, y5] ++ r).getD 2 0 = y2 := rfl
  have g3 : ([x, y1, y2, y3, y4, y5] ++ r).getD 3 0 = y3 := rfl
  have g4 : ([x, y1, y2, y3, y4, y5] ++ r).getD 4 0 = y4 := rfl
  have g5 : ([x, y1, y2, y3, y4, y5] ++ r).getD 5 0 = y5 := rfl
  simp only [V, Nat.reduceAdd, Nat.zero_add, g0, g1, g2, g3, g4, g5] at hv
  unfold head at hv
  simp only [Nat.reduceEqDiff, if_true, if_false] at hv
  have hc := sz_cases n (by omega)
  rw [enc6 n (by omega) (by omega)]
  simp only [List.cons.injEq, and_true]
  omega

theorem again7 (x y1 y2 y3 y4 y5 y6 n : Int) (r : List Int) (hx : 0 ≤ x ∧ x ≤ 255) (hy1 : 0 ≤ y1 ∧ y1 ≤ 255) (hy2 : 0 ≤ y2 ∧ y2 ≤ 255) (hy3 : 0 ≤ y3 ∧ y3 ≤ 255) (hy4 : 0 ≤ y4 ∧ y4 ≤ 255) (hy5 : 0 ≤ y5 ∧ y5 ≤ 255) (hy6 : 0 ≤ y6 ∧ y6 ≤ 255) (ht : told x = 7) (hv : V ([x, y1, y2, y3, y4, y5, y6] ++ r) 7 6 = n) (hs : sz n = 7) : enc n = [x, y1, y2, y3, y4, y5, y6] := by
  have hr : 252 ≤ x ∧ x < 254 := by
    unfold told at ht
    repeat' split at ht
    all_goals omega
  have g0 : ([x, y1, y2, y3, y4, y5, y6] ++ r).getD 0 0 = x := rfl
  have g1 : ([x, y1, y2, y3, y4, y5, y6] ++ r).getD 1 0 = y1 := rfl
  have g2 : ([x, y1, y2, y3, y4, y5, y6] ++ r).getD 2 0 = y2 := rfl
  have g3 : ([x, y1, y2, y3, y4, y5, y6] ++ r).getD 3 0 = y3 := rfl
  have g4 : ([x, y1, y2, y3, y4, y5, y6] ++ r).getD 4 0 = y4 := rfl
  have g5 : ([x, y1, y2, y3, y4, y5, y6] ++ r).getD 5 0 = y5 := rfl
  have g6 : ([x, y1, y2, y3, y4, y5, y6] ++ r).getD 6 0 = y6 := rfl
  simp only [V, Nat.reduceAdd, Nat.zero_add, g0, g1, g2, g3, g4, g5, g6] at hv
  unfold head at hv
  simp only [Nat.reduceEqDiff, if_true, if_false] at hv
  have hc := sz_cases n (by omega)
  rw [enc7 n (by omega) (by omega)]
  simp only [List.cons.injEq, and_true]
  omega

theorem again8 (x y1 y2 y3 y4 y5 y6 y7 n : Int) (r : List Int) (hx : 0 ≤ x ∧ x ≤ 255) (hy1 : 0 ≤ y1 ∧ y1 ≤ 255) (hy2 : 0 ≤ y2 ∧ y2 ≤ 255) (hy3 : 0 ≤ y3 ∧ y3 ≤ 255) (hy4 : 0 ≤ y4 ∧ y4 ≤ 255) (hy5 : 0 ≤ y5 ∧ y5 ≤ 255) (hy6 : 0 ≤ y6 ∧ y6 ≤ 255) (hy7 : 0 ≤ y7 ∧ y7 ≤ 255) (ht : told x = 8) (hv : V ([x, y1, y2, y3, y4, y5, y6, y7] ++ r) 8 7 = n) (hs : sz n = 8) : enc n = [x, y1, y2, y3, y4, y5, y6, y7] := by
  have hr : 254 ≤ x ∧ x < 255 := by
    unfold told at ht
    repeat' split at ht
    all_goals omega
  have g0 : ([x, y1, y2, y3, y4, y5, y6, y7] ++ r).getD 0 0 = x := rfl
  have g1 : ([x, y1, y2, y3, y4, y5, y6, y7] ++ r).getD 1 0 = y1 := rfl
  have g2 : ([x, y1, y2, y3, y4, y5, y6, y7] ++ r).getD 2 0 = y2 := rfl
  have g3 : ([x, y1, y2, y3, y4, y5, y6, y7] ++ r).getD 3 0 = y3 := rfl
  have g4 : ([x, y1, y2, y3, y4, y5, y6, y7] ++ r).getD 4 0 = y4 := rfl
  have g5 : ([x, y1, y2, y3, y4, y5, y6, y7] ++ r).getD 5 0 = y5 := rfl
  have g6 : ([x, y1, y2, y3, y4, y5, y6, y7] ++ r).getD 6 0 = y6 := rfl
  have g7 : ([x, y1, y2, y3, y4, y5, y6, y7] ++ r).getD 7 0 = y7 := rfl
  simp only [V, Nat.reduceAdd, Nat.zero_add, g0, g1, g2, g3, g4, g5, g6, g7] at hv
  unfold head at hv
  simp only [Nat.reduceEqDiff, if_false] at hv
  have hc := sz_cases n (by omega)
  rw [enc8 n (by omega)]
  simp only [List.cons.injEq, and_true]
  omega

theorem num_again (most n : Int) (l : List Int) (k : Nat) (hl : ∀ i : Nat, 0 ≤ l.getD i 0 ∧ l.getD i 0 ≤ 255) (h : num most l = (n, 0, k)) : k ≤ l.length ∧ enc n = l.take k := by
  unfold num at h
  have htb := told_bd (l.getD 0 0)
  split at h
  · simp at h
  split at h
  · simp at h
  split at h
  · simp at h
  split at h
  · simp at h
  rename_i h0 h9 hs hb
  simp only [Prod.mk.injEq, true_and] at h
  obtain ⟨hv, hk⟩ := h
  have hb' : sz (V l (told (l.getD 0 0)) (told (l.getD 0 0) - 1)) = told (l.getD 0 0) := by
    by_cases q : sz (V l (told (l.getD 0 0)) (told (l.getD 0 0) - 1)) = told (l.getD 0 0)
    · exact q
    · exact absurd (Or.inl q) hb
  rw [hk] at hv hb' hs
  rw [hv] at hb'
  refine ⟨by omega, ?_⟩
  obtain ⟨hh, r, rfl, hlen⟩ := list_split k l (by omega)
  rw [List.take_left' hlen]
  have hk8 : k = 1 ∨ k = 2 ∨ k = 3 ∨ k = 4 ∨ k = 5 ∨ k = 6 ∨ k = 7 ∨ k = 8 := by omega
  rcases hk8 with rfl | rfl | rfl | rfl | rfl | rfl | rfl | rfl
  · match hh, hlen with
    | [x], _ => exact again1 x n r (hl 0) hk hv hb'
  · match hh, hlen with
    | [x, y1], _ => exact again2 x y1 n r (hl 0) (hl 1) hk hv hb'
  · match hh, hlen with
    | [x, y1, y2], _ => exact again3 x y1 y2 n r (hl 0) (hl 1) (hl 2) hk hv hb'
  · match hh, hlen with
    | [x, y1, y2, y3], _ => exact again4 x y1 y2 y3 n r (hl 0) (hl 1) (hl 2) (hl 3) hk hv hb'
  · match hh, hlen with
    | [x, y1, y2, y3, y4], _ => exact again5 x y1 y2 y3 y4 n r (hl 0) (hl 1) (hl 2) (hl 3) (hl 4) hk hv hb'
  · match hh, hlen with
    | [x, y1, y2, y3, y4, y5], _ => exact again6 x y1 y2 y3 y4 y5 n r (hl 0) (hl 1) (hl 2) (hl 3) (hl 4) (hl 5) hk hv hb'
  · match hh, hlen with
    | [x, y1, y2, y3, y4, y5, y6], _ => exact again7 x y1 y2 y3 y4 y5 y6 n r (hl 0) (hl 1) (hl 2) (hl 3) (hl 4) (hl 5) (hl 6) hk hv hb'
  · match hh, hlen with
    | [x, y1, y2, y3, y4, y5, y6, y7], _ => exact again8 x y1 y2 y3 y4 y5 y6 y7 n r (hl 0) (hl 1) (hl 2) (hl 3) (hl 4) (hl 5) (hl 6) (hl 7) hk hv hb'

end Go.Proofs.Ytcgimbomandjfab.Num
