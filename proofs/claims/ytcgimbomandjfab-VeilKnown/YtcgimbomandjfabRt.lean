/- Plain mathematics: a number's bytes tell the number. -/
import Derived.Test.YtcgimbomandjfabNum
namespace Go.Proofs.Ytcgimbomandjfab.Num

theorem num_of (most n : Int) (l : List Int) (k : Nat) (hk : told (l.getD 0 0) = k) (h8 : k ≤ 8) (hl : k ≤ l.length) (hl0 : 0 < l.length) (hv : V l k (k - 1) = n) (hs : sz n = k) (hm : n ≤ most) : num most l = (n, 0, k) := by
  unfold num
  rw [if_neg (by omega), hk, if_neg (by omega), if_neg (by omega), hv, if_neg (by rintro (h | h); exact h hs; omega)]

theorem num_enc1 (most n : Int) (r : List Int) (h0 : 0 ≤ n) (h1 : n < 128) (hm : n ≤ most) : num most (enc n ++ r) = (n, 0, 1) := by
  rw [enc1 n h1]
  have g0 : ([n] ++ r).getD 0 0 = n := rfl
  refine num_of most n _ 1 ?_ (by omega) (by simp) (by simp) ?_ ?_ hm
  · rw [g0]; unfold told; repeat' split
    all_goals omega
  · simp only [V, Nat.reduceSub, g0]
    unfold head
    simp only [Nat.reduceEqDiff, if_true, if_false]
    omega
  · have := sz_cases n (by omega); omega

theorem num_enc2 (most n : Int) (r : List Int) (h0 : 128 ≤ n) (h1 : n < 16384) (hm : n ≤ most) : num most (enc n ++ r) = (n, 0, 2) := by
  rw [enc2 n h0 h1]
  have g0 : ([128 + n / 256, n % 256] ++ r).getD 0 0 = 128 + n / 256 := rfl
  have g1 : ([128 + n / 256, n % 256] ++ r).getD 1 0 = n % 256 := rfl
  refine num_of most n _ 2 ?_ (by omega) (by simp) (by simp) ?_ ?_ hm
  · rw [g0]; unfold told; repeat' split
    all_goals omega
  · simp only [V, Nat.reduceSub, Nat.zero_add, g0, g1]
    unfold head
    simp only [Nat.reduceEqDiff, if_true, if_false]
    omega
  · have := sz_cases n (by omega); omega

theorem num_enc3 (most n : Int) (r : List Int) (h0 : 16384 ≤ n) (h1 : n < 2097152) (hm : n ≤ most) : num most (enc n ++ r) = (n, 0, 3) := by
  rw [enc3 n h0 h1]
  have g0 : ([192 + n / 65536, n / 256 % 256, n % 256] ++ r).getD 0 0 = 192 + n / 65536 := rfl
  have g1 : ([192 + n / 65536, n / 256 % 256, n % 256] ++ r).getD 1 0 = n / 256 % 256 := rfl
  have g2 : ([192 + n / 65536, n / 256 % 256, n % 256] ++ r).getD 2 0 = n % 256 := rfl
  refine num_of most n _ 3 ?_ (by omega) (by simp) (by simp) ?_ ?_ hm
  · rw [g0]; unfold told; repeat' split
    all_goals omega
  · simp only [V, Nat.reduceSub, Nat.reduceAdd, Nat.zero_add, g0, g1, g2]
    unfold head
    simp only [Nat.reduceEqDiff, if_true, if_false]
    omega
  · have := sz_cases n (by omega); omega

theorem num_enc4 (most n : Int) (r : List Int) (h0 : 2097152 ≤ n) (h1 : n < 268435456) (hm : n ≤ most) : num most (enc n ++ r) = (n, 0, 4) := by
  rw [enc4 n h0 h1]
  have g0 : ([224 + n / 16777216, n / 65536 % 256, n / 256 % 256, n % 256] ++ r).getD 0 0 = 224 + n / 16777216 := rfl
  have g1 : ([224 + n / 16777216, n / 65536 % 256, n / 256 % 256, n % 256] ++ r).getD 1 0 = n / 65536 % 256 := rfl
  have g2 : ([224 + n / 16777216, n / 65536 % 256, n / 256 % 256, n % 256] ++ r).getD 2 0 = n / 256 % 256 := rfl
  have g3 : ([224 + n / 16777216, n / 65536 % 256, n / 256 % 256, n % 256] ++ r).getD 3 0 = n % 256 := rfl
  refine num_of most n _ 4 ?_ (by omega) (by simp) (by simp) ?_ ?_ hm
  · rw [g0]; unfold told; repeat' split
    all_goals omega
  · simp only [V, Nat.reduceSub, Nat.reduceAdd, Nat.zero_add, g0, g1, g2, g3]
    unfold head
    simp only [Nat.reduceEqDiff, if_true, if_false]
    omega
  · have := sz_cases n (by omega); omega

theorem num_enc5 (most n : Int) (r : List Int) (h0 : 268435456 ≤ n) (h1 : n < 34359738368) (hm : n ≤ most) : num most (enc n ++ r) = (n, 0, 5) := by
  rw [enc5 n h0 h1]
  have g0 : ([240 + n / 4294967296, n / 16777216 % 256, n / 65536 % 256, n / 256 % 256, n % 256] ++ r).getD 0 0 = 240 + n / 4294967296 := rfl
  have g1 : ([240 + n / 4294967296, n / 16777216 % 256, n / 65536 % 256, n / 256 % 256, n % 256] ++ r).getD 1 0 = n / 16777216 % 256 := rfl
  have g2 : ([240 + n / 4294967296, n / 16777216 % 256, n / 65536 % 256, n / 256 % 256, n % 256] ++ r).getD 2 0 = n / 65536 % 256 := rfl
  have g3 : ([240 + n / 4294967296, n / 16777216 % 256, n / 65536 % 256, n / 256 % 256, n % 256] ++ r).getD 3 0 = n / 256 % 256 := rfl
  have g4 : ([240 + n / 4294967296, n / 16777216 % 256, n / 65536 % 256, n / 256 % 256, n % 256] ++ r).getD 4 0 = n % 256 := rfl
  refine num_of most n _ 5 ?_ (by omega) (by simp) (by simp) ?_ ?_ hm
  · rw [g0]; unfold told; repeat' split
    all_goals omega
  · simp only [V, Nat.reduceSub, Nat.reduceAdd, Nat.zero_add, g0, g1, g2, g3, g4]
    unfold head
    simp only [Nat.reduceEqDiff, if_true, if_false]
    omega
  · have := sz_cases n (by omega); omega

theorem num_enc6 (most n : Int) (r : List Int) (h0 : 34359738368 ≤ n) (h1 : n < 4398046511104) (hm : n ≤ most) : num most (enc n ++ r) = (n, 0, 6) := by
  rw [enc6 n h0 h1]
  have g0 : ([248 + n / 1099511627776, n / 4294967296 % 256, n / 16777216 % 256, n / 65536 % 256, n / 256 % 256, n % 256] ++ r).getD 0 0 = 248 + n / 1099511627776 := rfl
  have g1 : ([248 + n / 1099511627776, n / 4294967296 % 256, n / 16777216 % 256, n / 65536 % 256, n / 256 % 256, n % 256] ++ r).getD 1 0 = n / 4294967296 % 256 := rfl
  have g2 : ([248 + n / 1099511627776, n / 4294967296 % 256, n / 16777216 % 256, n / 65536 % 256, n / 256 % 256, n % 256] ++ r).getD 2 0 = n / 16777216 % 256 := rfl
  have g3 : ([248 + n / 1099511627776, n / 4294967296 % 256, n / 16777216 % 256, n / 65536 % 256, n / 256 % 256, n % 256] ++ r).getD 3 0 = n / 65536 % 256 := rfl
  have g4 : ([248 + n / 1099511627776, n / 4294967296 % 256, n / 16777216 % 256, n / 65536 % 256, n / 256 % 256, n % 256] ++ r).getD 4 0 = n / 256 % 256 := rfl
  have g5 : ([248 + n / 1099511627776, n / 4294967296 % 256, n / 16777216 % 256, n / 65536 % 256, n / 256 % 256, n % 256] ++ r).getD 5 0 = n % 256 := rfl
  refine num_of most n _ 6 ?_ (by omega) (by simp) (by simp) ?_ ?_ hm
  · rw [g0]; unfold told; repeat' split
    all_goals omega
  · simp only [V, Nat.reduceSub, Nat.reduceAdd, Nat.zero_add, g0, g1, g2, g3, g4, g5]
    unfold head
    simp only [Nat.reduceEqDiff, if_true, if_false]
    omega
  · have := sz_cases n (by omega); omega

theorem num_enc7 (most n : Int) (r : List Int) (h0 : 4398046511104 ≤ n) (h1 : n < 562949953421312) (hm : n ≤ most) : num most (enc n ++ r) = (n, 0, 7) := by
  rw [enc7 n h0 h1]
  have g0 : ([252 + n / 281474976710656, n / 1099511627776 % 256, n / 4294967296 % 256, n / 16777216 % 256, n / 65536 % 256, n / 256 % 256, n % 256] ++ r).getD 0 0 = 252 + n / 281474976710656 := rfl
  have g1 : ([252 + n / 281474976710656, n / 1099511627776 % 256, n / 4294967296 % 256, n / 16777216 % 256, n / 65536 % 256, n / 256 % 256, n % 256] ++ r).getD 1 0 = n / 1099511627776 % 256 := rfl
  have g2 : ([252 + n / 281474976710656, n / 1099511627776 % 256, n / 4294967296 % 256, n / 16777216 % 256, n / 65536 % 256, n / 256 % 256, n % 256] ++ r).getD 2 0 = n / 4294967296 % 256 := rfl
  have g3 : ([252 + n / 281474976710656, n / 1099511627776 % 256, n / 4294967296 % 256, n / 16777216 % 256, n / 65536 % 256, n / 256 % 256, n % 256] ++ r).getD 3 0 = n / 16777216 % 256 := rfl
  have g4 : ([252 + n / 281474976710656, n / 1099511627776 % 256, n / 4294967296 % 256, n / 16777216 % 256, n / 65536 % 256, n / 256 % 256, n % 256] ++ r).getD 4 0 = n / 65536 % 256 := rfl
  have g5 : ([252 + n / 281474976710656, n / 1099511627776 % 256, n / 4294967296 % 256, n / 16777216 % 256, n / 65536 % 256, n / 256 % 256, n % 256] ++ r).getD 5 0 = n / 256 % 256 := rfl
  have g6 : ([252 + n / 281474976710656, n / 1099511627776 % 256, n / 4294967296 % 256, n / 16777216 % 256, n / 65536 % 256, n / 256 % 256, n % 256] ++ r).getD 6 0 = n % 256 := rfl
  refine num_of most n _ 7 ?_ (by omega) (by simp) (by simp) ?_ ?_ hm
  · rw [g0]; unfold told; repeat' split
    all_goals omega
  · simp only [V, Nat.reduceSub, Nat.reduceAdd, Nat.zero_add, g0, g1, g2, g3, g4, g5, g6]
    unfold head
    simp only [Nat.reduceEqDiff, if_true, if_false]
    omega
  · have := sz_cases n (by omega); omega

theorem num_enc8 (most n : Int) (r : List Int) (h0 : 562949953421312 ≤ n) (h1 : n < 72057594037927936) (hm : n ≤ most) : num most (enc n ++ r) = (n, 0, 8) := by
  rw [enc8 n h0]
  have g0 : ([254, n / 281474976710656, n / 1099511627776 % 256, n / 4294967296 % 256, n / 16777216 % 256, n / 65536 % 256, n / 256 % 256, n % 256] ++ r).getD 0 0 = 254 := rfl
  have g1 : ([254, n / 281474976710656, n / 1099511627776 % 256, n / 4294967296 % 256, n / 16777216 % 256, n / 65536 % 256, n / 256 % 256, n % 256] ++ r).getD 1 0 = n / 281474976710656 := rfl
  have g2 : ([254, n / 281474976710656, n / 1099511627776 % 256, n / 4294967296 % 256, n / 16777216 % 256, n / 65536 % 256, n / 256 % 256, n % 256] ++ r).getD 2 0 = n / 1099511627776 % 256 := rfl
  have g3 : ([254, n / 281474976710656, n / 1099511627776 % 256, n / 4294967296 % 256, n / 16777216 % 256, n / 65536 % 256, n / 256 % 256, n % 256] ++ r).getD 3 0 = n / 4294967296 % 256 := rfl
  have g4 : ([254, n / 281474976710656, n / 1099511627776 % 256, n / 4294967296 % 256, n / 16777216 % 256, n / 65536 % 256, n / 256 % 256, n % 256] ++ r).getD 4 0 = n / 16777216 % 256 := rfl
  have g5 : ([254, n / 281474976710656, n / 1099511627776 % 256, n / 4294967296 % 256, n / 16777216 % 256, n / 65536 % 256, n / 256 % 256, n % 256] ++ r).getD 5 0 = n / 65536 % 256 := rfl
  have g6 : ([254, n / 281474976710656, n / 1099511627776 % 256, n / 4294967296 % 256, n / 16777216 % 256, n / 65536 % 256, n / 256 % 256, n % 256] ++ r).getD 6 0 = n / 256 % 256 := rfl
  have g7 : ([254, n / 281474976710656, n / 1099511627776 % 256, n / 4294967296 % 256, n / 16777216 % 256, n / 65536 % 256, n / 256 % 256, n % 256] ++ r).getD 7 0 = n % 256 := rfl
  refine num_of most n _ 8 ?_ (by omega) (by simp) (by simp) ?_ ?_ hm
  · rw [g0]; unfold told; repeat' split
    all_goals omega
  · simp only [V, Nat.reduceSub, Nat.reduceAdd, Nat.zero_add, g0, g1, g2, g3, g4, g5, g6, g7]
    unfold head
    simp only [Nat.reduceEqDiff, if_false]
    omega
  · have := sz_cases n (by omega); omega

theorem num_enc (most n : Int) (r : List Int) (h0 : 0 ≤ n) (h1 : n < 72057594037927936) (hm : n ≤ most) : num most (enc n ++ r) = (n, 0, sz n) := by
  rcases sz_cases n h0 with h | h | h | h | h | h | h | h
  · rw [h.1]; exact num_enc1 most n r h0 h.2 hm
  · rw [h.1]; exact num_enc2 most n r h.2.1 h.2.2 hm
  · rw [h.1]; exact num_enc3 most n r h.2.1 h.2.2 hm
  · rw [h.1]; exact num_enc4 most n r h.2.1 h.2.2 hm
  · rw [h.1]; exact num_enc5 most n r h.2.1 h.2.2 hm
  · rw [h.1]; exact num_enc6 most n r h.2.1 h.2.2 hm
  · rw [h.1]; exact num_enc7 most n r h.2.1 h.2.2 hm
  · rw [h.1]; exact num_enc8 most n r h.2 h1 hm

end Go.Proofs.Ytcgimbomandjfab.Num
