/- Plain mathematics: how many bytes a number takes, and what they are. -/
import Derived.RowKit
namespace Go.Proofs.Ytcgimbomandjfab.Num

/-- In how many bytes a number from 0 on is written. -/
def sz (n : Int) : Nat :=
  if n < 128 then 1 else if n < 16384 then 2 else if n < 2097152 then 3 else if n < 268435456 then 4
  else if n < 34359738368 then 5 else if n < 4398046511104 then 6 else if n < 562949953421312 then 7 else 8

theorem sz_cases (n : Int) (h0 : 0 ≤ n) : (sz n = 1 ∧ n < 128) ∨ (sz n = 2 ∧ 128 ≤ n ∧ n < 16384) ∨ (sz n = 3 ∧ 16384 ≤ n ∧ n < 2097152)
    ∨ (sz n = 4 ∧ 2097152 ≤ n ∧ n < 268435456) ∨ (sz n = 5 ∧ 268435456 ≤ n ∧ n < 34359738368) ∨ (sz n = 6 ∧ 34359738368 ≤ n ∧ n < 4398046511104)
    ∨ (sz n = 7 ∧ 4398046511104 ≤ n ∧ n < 562949953421312) ∨ (sz n = 8 ∧ 562949953421312 ≤ n) := by
  unfold sz
  repeat' split
  all_goals omega

theorem sz_bd (n : Int) (h0 : 0 ≤ n) : 1 ≤ sz n ∧ sz n ≤ 8 := by
  have := sz_cases n h0
  omega

/-- The bytes of a number from 0 on. -/
def enc (n : Int) : List Int :=
  if n < 128 then [n]
  else if n < 16384 then [128 + n / 256, n % 256]
  else if n < 2097152 then [192 + n / 65536, n / 256 % 256, n % 256]
  else if n < 268435456 then [224 + n / 16777216, n / 65536 % 256, n / 256 % 256, n % 256]
  else if n < 34359738368 then [240 + n / 4294967296, n / 16777216 % 256, n / 65536 % 256, n / 256 % 256, n % 256]
  else if n < 4398046511104 then [248 + n / 1099511627776, n / 4294967296 % 256, n / 16777216 % 256, n / 65536 % 256, n / 256 % 256, n % 256]
  else if n < 562949953421312 then [252 + n / 281474976710656, n / 1099511627776 % 256, n / 4294967296 % 256, n / 16777216 % 256, n / 65536 % 256, n / 256 % 256, n % 256]
  else [254, n / 281474976710656, n / 1099511627776 % 256, n / 4294967296 % 256, n / 16777216 % 256, n / 65536 % 256, n / 256 % 256, n % 256]

theorem enc1 (n : Int) (h0 : n < 128) : enc n = [n] := by
  unfold enc
  rw [if_pos (by omega)]

theorem enc2 (n : Int) (h0 : 128 ≤ n) (h1 : n < 16384) : enc n = [128 + n / 256, n % 256] := by
  unfold enc
  rw [if_neg (by omega)]
  rw [if_pos (by omega)]

theorem enc3 (n : Int) (h0 : 16384 ≤ n) (h1 : n < 2097152) : enc n = [192 + n / 65536, n / 256 % 256, n % 256] := by
  unfold enc
  rw [if_neg (by omega)]
  rw [if_neg (by omega)]
  rw [if_pos (by omega)]

theorem enc4 (n : Int) (h0 : 2097152 ≤ n) (h1 : n < 268435456) : enc n = [224 + n / 16777216, n / 65536 % 256, n / 256 % 256, n % 256] := by
  unfold enc
  rw [if_neg (by omega)]
  rw [if_neg (by omega)]
  rw [if_neg (by omega)]
  rw [if_pos (by omega)]

theorem enc5 (n : Int) (h0 : 268435456 ≤ n) (h1 : n < 34359738368) : enc n = [240 + n / 4294967296, n / 16777216 % 256, n / 65536 % 256, n / 256 % 256, n % 256] := by
  unfold enc
  rw [if_neg (by omega)]
  rw [if_neg (by omega)]
  rw [if_neg (by omega)]
  rw [if_neg (by omega)]
  rw [if_pos (by omega)]

theorem enc6 (n : Int) (h0 : 34359738368 ≤ n) (h1 : n < 4398046511104) : enc n = [248 + n / 1099511627776, n / 4294967296 % 256, n / 16777216 % 256, n / 65536 % 256, n / 256 % 256, n % 256] := by
  unfold enc
  rw [if_neg (by omega)]
  rw [if_neg (by omega)]
  rw [if_neg (by omega)]
  rw [if_neg (by omega)]
  rw [if_neg (by omega)]
  rw [if_pos (by omega)]

theorem enc7 (n : Int) (h0 : 4398046511104 ≤ n) (h1 : n < 562949953421312) : enc n = [252 + n / 281474976710656, n / 1099511627776 % 256, n / 4294967296 % 256, n / 16777216 % 256, n / 65536 % 256, n / 256 % 256, n % 256] := by
  unfold enc
  rw [if_neg (by omega)]
  rw [if_neg (by omega)]
  rw [if_neg (by omega)]
  rw [if_neg (by omega)]
  rw [if_neg (by omega)]
  rw [if_neg (by omega)]
  rw [if_pos (by omega)]

theorem enc8 (n : Int) (h0 : 562949953421312 ≤ n) : enc n = [254, n / 281474976710656, n / 1099511627776 % 256, n / 4294967296 % 256, n / 16777216 % 256, n / 65536 % 256, n / 256 % 256, n % 256] := by
  unfold enc
  rw [if_neg (by omega)]
  rw [if_neg (by omega)]
  rw [if_neg (by omega)]
  rw [if_neg (by omega)]
  rw [if_neg (by omega)]
  rw [if_neg (by omega)]
  rw [if_neg (by omega)]

theorem enc_length (n : Int) : (enc n).length = sz n := by
  unfold enc sz
  repeat' split
  all_goals first | rfl | omega

/-- How many bytes a number has that begins with this byte; 9, if none does. -/
def told (x : Int) : Nat :=
  if x < 128 then 1 else if x < 192 then 2 else if x < 224 then 3 else if x < 240 then 4 else if x < 248 then 5 else if x < 252 then 6 else if x < 254 then 7 else if x < 255 then 8 else 9

/-- What is left of the first byte of a number of k bytes. -/
def head (k : Nat) (x : Int) : Int :=
  if k = 1 then x % 128 else if k = 2 then x % 64 else if k = 3 then x % 32 else if k = 4 then x % 16 else if k = 5 then x % 8 else if k = 6 then x % 4 else if k = 7 then x % 2 else 0

/-- The number that the first bytes tell, behind i of those that follow the first one. -/
def V (l : List Int) (k : Nat) : Nat → Int
  | 0 => head k (l.getD 0 0)
  | i + 1 => V l k i * 256 + l.getD (i + 1) 0

/-- The number with which bytes begin, up to 'most': the number, the error, how many bytes it has. -/
def num (most : Int) (l : List Int) : Int × Int × Nat :=
  if l.length = 0 then (0, 3, 0)
  else if told (l.getD 0 0) = 9 then (0, 4, 0)
  else if l.length < told (l.getD 0 0) then (0, 3, 0)
  else if sz (V l (told (l.getD 0 0)) (told (l.getD 0 0) - 1)) ≠ told (l.getD 0 0) ∨ most < V l (told (l.getD 0 0)) (told (l.getD 0 0) - 1) then (0, 4, 0)
  else (V l (told (l.getD 0 0)) (told (l.getD 0 0) - 1), 0, told (l.getD 0 0))

theorem told_bd (x : Int) : 1 ≤ told x ∧ told x ≤ 9 := by
  unfold told
  repeat' split
  all_goals omega

theorem head_bd (k : Nat) (x : Int) : 0 ≤ head k x ∧ (k = 1 → head k x < 128) ∧ (k = 2 → head k x < 64) ∧ (k = 3 → head k x < 32) ∧ (k = 4 → head k x < 16) ∧ (k = 5 → head k x < 8) ∧ (k = 6 → head k x < 4) ∧ (k = 7 → head k x < 2) ∧ (k = 8 → head k x < 1) := by
  unfold head
  repeat' split
  all_goals omega

/-- Each of the bytes is one. -/
theorem V_bd (l : List Int) (k : Nat) (hl : ∀ i : Nat, 0 ≤ l.getD i 0 ∧ l.getD i 0 ≤ 255) (h1 : 1 ≤ k) (h8 : k ≤ 8) :
    (∀ i, i + 1 < k → 0 ≤ V l k i ∧ V l k i < 281474976710656) ∧ 0 ≤ V l k (k - 1) ∧ V l k (k - 1) < 72057594037927936 := by
  have hh := head_bd k (l.getD 0 0)
  have b1 := hl 1; have b2 := hl 2; have b3 := hl 3; have b4 := hl 4; have b5 := hl 5; have b6 := hl 6; have b7 := hl 7
  have hk : k = 1 ∨ k = 2 ∨ k = 3 ∨ k = 4 ∨ k = 5 ∨ k = 6 ∨ k = 7 ∨ k = 8 := by omega
  rcases hk with rfl | rfl | rfl | rfl | rfl | rfl | rfl | rfl
  all_goals
    refine ⟨fun i hi => ?_, ?_⟩
    · have hi' : i = 0 ∨ i = 1 ∨ i = 2 ∨ i = 3 ∨ i = 4 ∨ i = 5 ∨ i = 6 := by omega
      rcases hi' with rfl | rfl | rfl | rfl | rfl | rfl | rfl
      all_goals first | omega | (simp only [V, Nat.reduceAdd, Nat.zero_add]; omega)
    · simp only [V, Nat.reduceSub, Nat.reduceAdd, Nat.zero_add]; omega

end Go.Proofs.Ytcgimbomandjfab.Num
