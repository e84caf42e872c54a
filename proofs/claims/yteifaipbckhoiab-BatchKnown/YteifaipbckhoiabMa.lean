/- Plain numbers, words for memory, a reader of a copy. -/
import Derived.Test.YteifaipbckhoiabProg
import Derived.WalkKit
import Derived.WalkSpells
import Derived.WalkLawsBesides
import Derived.Lib.BitFns
import Derived.RowKit
import Derived.WalkMore
import Derived.Deep.LoopGhost
import Derived.Deep.AppendSrc
import Derived.Handy
namespace Go.Proofs.Yteifaipbckhoiab
open Go.RowKit
set_option linter.unusedVariables false

section
theorem len8_bd (i : Int) (h0 : 0 ≤ i) (h1 : i ≤ 255) : 0 ≤ Lib.len8 i ∧ Lib.len8 i ≤ 8 ∧ (1 ≤ i → 1 ≤ Lib.len8 i) ∧ (i = 0 → Lib.len8 i = 0) := by
  have h : ∀ n : Fin 256, 0 ≤ Lib.len8 (n.val : Int) ∧ Lib.len8 (n.val : Int) ≤ 8 ∧ (1 ≤ n.val → 1 ≤ Lib.len8 (n.val : Int)) ∧ (n.val = 0 → Lib.len8 (n.val : Int) = 0) := by decide +kernel
  have e := h ⟨i.toNat, by omega⟩
  simp only [Int.toNat_of_nonneg h0] at e
  exact ⟨e.1, e.2.1, fun q => e.2.2.1 (by omega), fun q => e.2.2.2 (by omega)⟩

theorem wr64 (k l : Int) (h0 : 0 ≤ k) (h1 : k ≤ 76) (h2 : 0 ≤ l) (h3 : l ≤ 8) : wrap64 (k + wrap64 l) = k + l := by
  unfold wrap64; omega
theorem wr64b (l : Int) (h2 : 0 ≤ l) (h3 : l ≤ 8) : wrap64 (wrap64 l) = l := by
  unfold wrap64; omega

set_option maxRecDepth 100000 in
set_option maxHeartbeats 400000 in
theorem len64_zero (w : World) :
    Calls Try.prog 73 #[.int .u64 0] w fun e w' => e = .returned (.int .i64 0) ∧ w' = w := by
  go_enter Try.func73, Try.ntmps73
  go_wp2
  go_ret
  have h := len8_bd 0 (by omega) (by omega)
  exact ⟨by simp [h.2.2.2 rfl, wrap64], rfl⟩

theorem len8_get (y : Int) (h : y.toNat < Lib.len8tab.size) : ((Lib.len8tab[y.toNat]'h).toNat : Int) = Lib.len8 y := by
  unfold Lib.len8
  rw [getElem?_pos Lib.len8tab y.toNat h]
  rfl

theorem len_end (k y : Int) (h : y.toNat < Lib.len8tab.size) (h0 : 0 ≤ k) (h1 : k ≤ 76) (h2 : 1 ≤ y) (h3 : y ≤ 255) : 1 ≤ wrap64 (k + wrap64 ((Lib.len8tab[y.toNat]'h).toNat : Int)) := by
  have b := len8_bd y (by omega) (by omega)
  rw [len8_get y h, wr64 k _ h0 h1 b.1 b.2.1]
  have := b.2.2.1 h2
  omega
theorem len_end0 (y : Int) (h : y.toNat < Lib.len8tab.size) (h2 : 1 ≤ y) (h3 : y ≤ 255) : 1 ≤ wrap64 (wrap64 ((Lib.len8tab[y.toNat]'h).toNat : Int)) := by
  have b := len8_bd y (by omega) (by omega)
  rw [len8_get y h, wr64b _ b.1 b.2.1]
  exact b.2.2.1 h2

set_option maxRecDepth 100000 in
set_option maxHeartbeats 400000 in
theorem len64_pos (x : Int) (w : World) (h0 : 1 ≤ x) (h1 : x < 72057594037927936) :
    Calls Try.prog 73 #[.int .u64 x] w fun e w' => (∃ r : Int, 1 ≤ r ∧ e = .returned (.int .i64 r)) ∧ w' = w := by
  have hs : Lib.len8tab.size = 256 := Lib.len8tab_size
  go_enter Try.func73, Try.ntmps73
  go_wp2
  all_goals go_ret
  all_goals refine ⟨⟨_, ?_, rfl⟩, rfl⟩
  all_goals first
    | exact len_end _ _ _ (by omega) (by omega) (by omega) (by omega)
    | exact len_end0 _ _ (by omega) (by omega)

set_option maxHeartbeats 400000 in
theorem len_zero (w : World) :
    Calls Try.prog 60 #[.int .u64 0] w fun e w' => e = .returned (.int .i64 0) ∧ w' = w := by
  go_enter Try.func60, Try.ntmps60
  go_wp2_with (go_at_call 73; refine (len64_zero _).mono ?_; rintro e w' ⟨rfl, rfl⟩)
  go_ret
  exact ⟨rfl, rfl⟩

set_option maxHeartbeats 400000 in
theorem len_pos (x : Int) (w : World) (h0 : 1 ≤ x) (h1 : x < 72057594037927936) :
    Calls Try.prog 60 #[.int .u64 x] w fun e w' => (∃ r : Int, 1 ≤ r ∧ e = .returned (.int .i64 r)) ∧ w' = w := by
  go_enter Try.func60, Try.ntmps60
  go_wp2_with (go_at_call 73; refine (len64_pos _ _ h0 h1).mono ?_; rintro e w' ⟨⟨r, hr, rfl⟩, rfl⟩)
  go_ret
  exact ⟨⟨r, hr, rfl⟩, rfl⟩
end

section
namespace Num
/-- In how many bytes a number from 0 on is written. -/
def sz (n : Int) : Nat :=
  if n < 128 then 1 else if n < 16384 then 2 else if n < 2097152 then 3 else if n < 268435456 then 4
  else if n < 34359738368 then 5 else if n < 4398046511104 then 6 else if n < 562949953421312 then 7 else 8

theorem sz_cases (n : Int) (h0 : 0 ≤ n) : (sz n = 1 ∧ n < 128) ∨ (sz n = 2 ∧ 128 ≤ n ∧ n < 16384) ∨ (sz n = 3 ∧ 16384 ≤ n ∧ n < 2097152)
    ∨ (sz n = 4 ∧ 2097152 ≤ n ∧ n < 268435456) ∨ (sz n = 5 ∧ 268435456 ≤ n ∧ n < 34359738368) ∨ (sz n = 6 ∧ 34359738368 ≤ n ∧ n < 4398046511104)
    ∨ (sz n = 7 ∧ 4398046511104 ≤ n ∧ n < 562949953421312) ∨ (sz n = 8 ∧ 562949953421312 ≤ n) := by
  unfold sz
  repeat' split
  all_goals omega

theorem sz_bd (n : Int) (h0 : 0 ≤ n) : 1 ≤ sz n ∧ sz n ≤ 8 := by
  have := sz_cases n h0
  omega

/-- The bytes of a number from 0 on. -/
def enc (n : Int) : List Int :=
  if n < 128 then [n]
  else if n < 16384 then [128 + n / 256, n % 256]
  else if n < 2097152 then [192 + n / 65536, n / 256 % 256, n % 256]
  else if n < 268435456 then [224 + n / 16777216, n / 65536 % 256, n / 256 % 256, n % 256]
  else if n < 34359738368 then [240 + n / 4294967296, n / 16777216 % 256, n / 65536 % 256, n / 256 % 256, n % 256]
  else if n < 4398046511104 then [248 + n / 1099511627776, n / 4294967296 % 256, n / 16777216 % 256, n / 65536 % 256, n / 256 % 256, n % 256]
  else if n < 562949953421312 then [252 + n / 281474976710656, n / 1099511627776 % 256, n / 4294967296 % 256, n / 16777216 % 256, n / 65536 % 256, n / 256 % 256, n % 256]
  else [254, n / 281474976710656, n / 1099511627776 % 256, n / 4294967296 % 256, n / 16777216 % 256, n / 65536 % 256, n / 256 % 256, n % 256]

theorem enc1 (n : Int) (h0 : n < 128) : enc n = [n] := by
  unfold enc
  rw [if_pos (by omega)]

theorem enc2 (n : Int) (h0 : 128 ≤ n) (h1 : n < 16384) : enc n = [128 + n / 256, n % 256] := by
  unfold enc
  rw [if_neg (by omega)]
  rw [if_pos (by omega)]

theorem enc3 (n : Int) (h0 : 16384 ≤ n) (h1 : n < 2097152) : enc n = [192 + n / 65536, n / 256 % 256, n % 256] := by
  unfold enc
  rw [if_neg (by omega)]
  rw [if_neg (by omega)]
  rw [if_pos (by omega)]

theorem enc4 (n : Int) (h0 : 2097152 ≤ n) (h1 : n < 268435456) : enc n = [224 + n / 16777216, n / 65536 % 256, n / 256 % 256, n % 256] := by
  unfold enc
  rw [if_neg (by omega)]
  rw [if_neg (by omega)]
  rw [if_neg (by omega)]
  rw [if_pos (by omega)]

theorem enc5 (n : Int) (h0 : 268435456 ≤ n) (h1 : n < 34359738368) : enc n = [240 + n / 4294967296, n / 16777216 % 256, n / 65536 % 256, n / 256 % 256, n % 256] := by
  unfold enc
  rw [if_neg (by omega)]
  rw [if_neg (by omega)]
  rw [if_neg (by omega)]
  rw [if_neg (by omega)]
  rw [if_pos (by omega)]

theorem enc6 (n : Int) (h0 : 34359738368 ≤ n) (h1 : n < 4398046511104) : enc n = [248 + n / 1099511627776, n / 4294967296 % 256, n / 16777216 % 256, n / 65536 % 256, n / 256 % 256, n % 256] := by
  unfold enc
  rw [if_neg (by omega)]
  rw [if_neg (by omega)]
  rw [if_neg (by omega)]
  rw [if_neg (by omega)]
  rw [if_neg (by omega)]
  rw [if_pos (by omega)]

theorem enc7 (n : Int) (h0 : 4398046511104 ≤ n) (h1 : n < 562949953421312) : enc n = [252 + n / 281474976710656, n / 1099511627776 % 256, n / 4294967296 % 256, n / 16777216 % 256, n / 65536 % 256, n / 256 % 256, n % 256] := by
  unfold enc
  rw [if_neg (by omega)]
  rw [if_neg (by omega)]
  rw [if_neg (by omega)]
  rw [if_neg (by omega)]
  rw [if_neg (by omega)]
  rw [if_neg (by omega)]
  rw [if_pos (by omega)]

theorem enc8 (n : Int) (h0 : 562949953421312 ≤ n) : enc n = [254, n / 281474976710656, n / 1099511627776 % 256, n / 4294967296 % 256, n / 16777216 % 256, n / 65536 % 256, n / 256 % 256, n % 256] := by
  unfold enc
  rw [if_neg (by omega)]
  rw [if_neg (by omega)]
  rw [if_neg (by omega)]
  rw [if_neg (by omega)]
  rw [if_neg (by omega)]
  rw [if_neg (by omega)]
  rw [if_neg (by omega)]

theorem enc_length (n : Int) : (enc n).length = sz n := by
  unfold enc sz
  repeat' split
  all_goals first | rfl | omega

/-- How many bytes a number has that begins with this byte; 9, if none does. -/
def told (x : Int) : Nat :=
  if x < 128 then 1 else if x < 192 then 2 else if x < 224 then 3 else if x < 240 then 4 else if x < 248 then 5 else if x < 252 then 6 else if x < 254 then 7 else if x < 255 then 8 else 9

/-- What is left of the first byte of a number of k bytes. -/
def head (k : Nat) (x : Int) : Int :=
  if k = 1 then x % 128 else if k = 2 then x % 64 else if k = 3 then x % 32 else if k = 4 then x % 16 else if k = 5 then x % 8 else if k = 6 then x % 4 else if k = 7 then x % 2 else 0

/-- The number that the first bytes tell, behind i of those that follow the first one. -/
def V (l : List Int) (k : Nat) : Nat → Int
  | 0 => head k (l.getD 0 0)
  | i + 1 => V l k i * 256 + l.getD (i + 1) 0

/-- The number with which bytes begin, up to 'most': the number, the error, how many bytes it has. -/
def num (most : Int) (l : List Int) : Int × Int × Nat :=
  if l.length = 0 then (0, 3, 0)
  else if told (l.getD 0 0) = 9 then (0, 4, 0)
  else if l.length < told (l.getD 0 0) then (0, 3, 0)
  else if sz (V l (told (l.getD 0 0)) (told (l.getD 0 0) - 1)) ≠ told (l.getD 0 0) ∨ most < V l (told (l.getD 0 0)) (told (l.getD 0 0) - 1) then (0, 4, 0)
  else (V l (told (l.getD 0 0)) (told (l.getD 0 0) - 1), 0, told (l.getD 0 0))

theorem told_bd (x : Int) : 1 ≤ told x ∧ told x ≤ 9 := by
  unfold told
  repeat' split
  all_goals omega

theorem head_bd (k : Nat) (x : Int) : 0 ≤ head k x ∧ (k = 1 → head k x < 128) ∧ (k = 2 → head k x < 64) ∧ (k = 3 → head k x < 32) ∧ (k = 4 → head k x < 16) ∧ (k = 5 → head k x < 8) ∧ (k = 6 → head k x < 4) ∧ (k = 7 → head k x < 2) ∧ (k = 8 → head k x < 1) := by
  unfold head
  repeat' split
  all_goals omega

/-- Each of the bytes is one. -/
theorem V_bd (l : List Int) (k : Nat) (hl : ∀ i : Nat, 0 ≤ l.getD i 0 ∧ l.getD i 0 ≤ 255) (h1 : 1 ≤ k) (h8 : k ≤ 8) :
    (∀ i, i + 1 < k → 0 ≤ V l k i ∧ V l k i < 281474976710656) ∧ 0 ≤ V l k (k - 1) ∧ V l k (k - 1) < 72057594037927936 := by
  have hh := head_bd k (l.getD 0 0)
  have b1 := hl 1; have b2 := hl 2; have b3 := hl 3; have b4 := hl 4; have b5 := hl 5; have b6 := hl 6; have b7 := hl 7
  have hk : k = 1 ∨ k = 2 ∨ k = 3 ∨ k = 4 ∨ k = 5 ∨ k = 6 ∨ k = 7 ∨ k = 8 := by omega
  rcases hk with rfl | rfl | rfl | rfl | rfl | rfl | rfl | rfl
  all_goals
    refine ⟨fun i hi => ?_, ?_⟩
    · have hi' : i = 0 ∨ i = 1 ∨ i = 2 ∨ i = 3 ∨ i = 4 ∨ i = 5 ∨ i = 6 := by omega
      rcases hi' with rfl | rfl | rfl | rfl | rfl | rfl | rfl
      all_goals first | omega | (simp only [V, Nat.reduceAdd, Nat.zero_add]; omega)
    · simp only [V, Nat.reduceSub, Nat.reduceAdd, Nat.zero_add]; omega
end Num
end

section
theorem wr8 (l : Int) (h2 : 0 ≤ l) (h3 : l ≤ 8) : wrap64 l = l := by unfold wrap64; omega

set_option maxRecDepth 100000 in
set_option maxHeartbeats 400000 in
theorem len8_any (x : Int) (w : World) (h0 : 0 ≤ x) (h1 : x ≤ 255) :
    Calls Try.prog 84 #[.int .u8 x] w fun e w' => e = .returned (.int .i64 (Lib.len8 x)) ∧ w' = w := by
  have hs : Lib.len8tab.size = 256 := Lib.len8tab_size
  have HB : Hid (wrap64 (Lib.len8 x) = Lib.len8 x) := by have := len8_bd x h0 h1; exact wr8 _ this.1 this.2.1
  go_enter Try.func84, Try.ntmps84
  go_wp2
  go_ret
  exact ⟨congrArg (fun x => Ending.returned (Value.int .i64 x)) HB.out, rfl⟩

set_option maxHeartbeats 400000 in
theorem lead8_any (x : Int) (w : World) (h0 : 0 ≤ x) (h1 : x ≤ 255) :
    Calls Try.prog 78 #[.int .u8 x] w fun e w' => e = .returned (.int .i64 (8 - Lib.len8 x)) ∧ w' = w := by
  obtain ⟨hb0, hb1, _⟩ := len8_bd x h0 h1
  go_enter Try.func78, Try.ntmps78
  go_wp2_with (go_at_call 84; refine (len8_any _ _ h0 h1).mono ?_; rintro e w' ⟨rfl, rfl⟩)
  go_ret
  exact ⟨rfl, rfl⟩

theorem not8 (x : Int) (h0 : 0 ≤ x) (h1 : x ≤ 255) : 0 ≤ bits BinOp.xor IntKind.u8 IntKind.u8.max x ∧ bits BinOp.xor IntKind.u8 IntKind.u8.max x ≤ 255 ∧ 8 - Lib.len8 (bits BinOp.xor IntKind.u8 IntKind.u8.max x) + 1 = Num.told x := by
  have h : ∀ y : Fin 256, 0 ≤ bits BinOp.xor IntKind.u8 IntKind.u8.max (y.val : Int) ∧ bits BinOp.xor IntKind.u8 IntKind.u8.max (y.val : Int) ≤ 255 ∧ 8 - Lib.len8 (bits BinOp.xor IntKind.u8 IntKind.u8.max (y.val : Int)) + 1 = Num.told (y.val : Int) := by decide +kernel
  have e := h ⟨x.toNat, by omega⟩
  simp only [Int.toNat_of_nonneg h0] at e
  exact e

set_option maxHeartbeats 400000 in
theorem sizeTold_any (x : Int) (w : World) (h0 : 0 ≤ x) (h1 : x ≤ 255) :
    Calls Try.prog 65 #[.int .u8 x] w fun e w' => e = .returned (.int .i64 (Num.told x)) ∧ w' = w := by
  have N : Hid _ := not8 x h0 h1
  go_enter Try.func65, Try.ntmps65
  go_wp2_with fail
  refine (lead8_any _ _ N.out.1 N.out.2.1).mono ?_
  rintro e w' ⟨rfl, rfl⟩
  obtain ⟨n0, n1, n2⟩ := N.out
  have hb := len8_bd _ n0 n1
  clear n0 n1 N
  generalize Lib.len8 (bits BinOp.xor IntKind.u8 IntKind.u8.max x) = z at hb n2 ⊢
  obtain ⟨hb0, hb1, _⟩ := hb
  have N2 : Hid _ := n2
  clear n2
  go_wp2
  go_ret
  exact ⟨congrArg (fun x => Ending.returned (Value.int .i64 x)) N2.out, rfl⟩
end

section
theorem len_is0 (x : Int) (w : World) (h : x = 0) :
    Calls Try.prog 60 #[.int .u64 x] w fun e w' => e = .returned (.int .i64 0) ∧ w' = w := by
  subst h; exact len_zero w

set_option maxHeartbeats 4000000 in
theorem sizeOf_any (n : Int) (w : World) (h0 : 0 ≤ n) (h1 : n < 72057594037927936) :
    Calls Try.prog 48 #[.int .i64 n] w fun e w' => e = .returned (.int .i64 (Num.sz n)) ∧ w' = w := by
  have HS : Hid (1 ≤ Num.sz n ∧ Num.sz n ≤ 8) := Num.sz_bd n h0
  go_enter Try.func48, Try.ntmps48
  go_wp2
  go_step3
  go_wp2
  go_step3
  go_wp2
  go_loop [3] (fun s => ∃ k : Nat, 1 ≤ k ∧ k ≤ Num.sz n ∧ s = .int .i64 k) (fun s => 8 - (intOf s).toNat)
  case atStart => exact ⟨1, Nat.le_refl _, HS.out.1, rfl⟩
  case round =>
    obtain ⟨k, hk1, hk2, rfl⟩ := hrel
    have hc := Num.sz_cases n h0
    have hs : k < Num.sz n ∨ k = Num.sz n := by omega
    have hk : k = 1 ∨ k = 2 ∨ k = 3 ∨ k = 4 ∨ k = 5 ∨ k = 6 ∨ k = 7 ∨ k = 8 := by omega
    rcases hs with hs | hs
    · rcases hk with rfl | rfl | rfl | rfl | rfl | rfl | rfl | rfl
      · have e : 128 ≤ n := by omega
        have HE : Hid (1 < Num.sz n) := hs
        clear hc hk2 hk1 hs
        go_wp2_with (go_at_call 60; refine (len_pos _ _ (by omega) (by omega)).mono ?_; rintro e w' ⟨⟨r, hr, rfl⟩, rfl⟩; have hr0 : (r == 0) = false := by simp; omega)
        go_round
        case rel => exact ⟨2, by omega, HE.out, rfl⟩
        case measure => simp [intOf]
      · have e : 16384 ≤ n := by omega
        have HE : Hid (2 < Num.sz n) := hs
        clear hc hk2 hk1 hs
        go_wp2_with (go_at_call 60; refine (len_pos _ _ (by omega) (by omega)).mono ?_; rintro e w' ⟨⟨r, hr, rfl⟩, rfl⟩; have hr0 : (r == 0) = false := by simp; omega)
        go_round
        case rel => exact ⟨3, by omega, HE.out, rfl⟩
        case measure => simp [intOf]
      · have e : 2097152 ≤ n := by omega
        have HE : Hid (3 < Num.sz n) := hs
        clear hc hk2 hk1 hs
        go_wp2_with (go_at_call 60; refine (len_pos _ _ (by omega) (by omega)).mono ?_; rintro e w' ⟨⟨r, hr, rfl⟩, rfl⟩; have hr0 : (r == 0) = false := by simp; omega)
        go_round
        case rel => exact ⟨4, by omega, HE.out, rfl⟩
        case measure => simp [intOf]
      · have e : 268435456 ≤ n := by omega
        have HE : Hid (4 < Num.sz n) := hs
        clear hc hk2 hk1 hs
        go_wp2_with (go_at_call 60; refine (len_pos _ _ (by omega) (by omega)).mono ?_; rintro e w' ⟨⟨r, hr, rfl⟩, rfl⟩; have hr0 : (r == 0) = false := by simp; omega)
        go_round
        case rel => exact ⟨5, by omega, HE.out, rfl⟩
        case measure => simp [intOf]
      · have e : 34359738368 ≤ n := by omega
        have HE : Hid (5 < Num.sz n) := hs
        clear hc hk2 hk1 hs
        go_wp2_with (go_at_call 60; refine (len_pos _ _ (by omega) (by omega)).mono ?_; rintro e w' ⟨⟨r, hr, rfl⟩, rfl⟩; have hr0 : (r == 0) = false := by simp; omega)
        go_round
        case rel => exact ⟨6, by omega, HE.out, rfl⟩
        case measure => simp [intOf]
      · have e : 4398046511104 ≤ n := by omega
        have HE : Hid (6 < Num.sz n) := hs
        clear hc hk2 hk1 hs
        go_wp2_with (go_at_call 60; refine (len_pos _ _ (by omega) (by omega)).mono ?_; rintro e w' ⟨⟨r, hr, rfl⟩, rfl⟩; have hr0 : (r == 0) = false := by simp; omega)
        go_round
        case rel => exact ⟨7, by omega, HE.out, rfl⟩
        case measure => simp [intOf]
      · have e : 562949953421312 ≤ n := by omega
        have HE : Hid (7 < Num.sz n) := hs
        clear hc hk2 hk1 hs
        go_wp2_with (go_at_call 60; refine (len_pos _ _ (by omega) (by omega)).mono ?_; rintro e w' ⟨⟨r, hr, rfl⟩, rfl⟩; have hr0 : (r == 0) = false := by simp; omega)
        go_round
        case rel => exact ⟨8, by omega, HE.out, rfl⟩
        case measure => simp [intOf]
      · omega
    · rcases hk with rfl | rfl | rfl | rfl | rfl | rfl | rfl | rfl
      · have e : n < 128 := by omega
        have HE : Hid (1 = Num.sz n) := hs
        clear hc hk2 hk1 hs
        go_wp2_with (go_at_call 60; refine (len_is0 _ _ (by omega)).mono ?_; rintro e w' ⟨rfl, rfl⟩)
        try rw [Exit.noGoto_ret]
        go_ret
        exact ⟨by rw [← HE.out]; rfl, rfl⟩
      · have e : n < 16384 := by omega
        have HE : Hid (2 = Num.sz n) := hs
        clear hc hk2 hk1 hs
        go_wp2_with (go_at_call 60; refine (len_is0 _ _ (by omega)).mono ?_; rintro e w' ⟨rfl, rfl⟩)
        try rw [Exit.noGoto_ret]
        go_ret
        exact ⟨by rw [← HE.out]; rfl, rfl⟩
      · have e : n < 2097152 := by omega
        have HE : Hid (3 = Num.sz n) := hs
        clear hc hk2 hk1 hs
        go_wp2_with (go_at_call 60; refine (len_is0 _ _ (by omega)).mono ?_; rintro e w' ⟨rfl, rfl⟩)
        try rw [Exit.noGoto_ret]
        go_ret
        exact ⟨by rw [← HE.out]; rfl, rfl⟩
      · have e : n < 268435456 := by omega
        have HE : Hid (4 = Num.sz n) := hs
        clear hc hk2 hk1 hs
        go_wp2_with (go_at_call 60; refine (len_is0 _ _ (by omega)).mono ?_; rintro e w' ⟨rfl, rfl⟩)
        try rw [Exit.noGoto_ret]
        go_ret
        exact ⟨by rw [← HE.out]; rfl, rfl⟩
      · have e : n < 34359738368 := by omega
        have HE : Hid (5 = Num.sz n) := hs
        clear hc hk2 hk1 hs
        go_wp2_with (go_at_call 60; refine (len_is0 _ _ (by omega)).mono ?_; rintro e w' ⟨rfl, rfl⟩)
        try rw [Exit.noGoto_ret]
        go_ret
        exact ⟨by rw [← HE.out]; rfl, rfl⟩
      · have e : n < 4398046511104 := by omega
        have HE : Hid (6 = Num.sz n) := hs
        clear hc hk2 hk1 hs
        go_wp2_with (go_at_call 60; refine (len_is0 _ _ (by omega)).mono ?_; rintro e w' ⟨rfl, rfl⟩)
        try rw [Exit.noGoto_ret]
        go_ret
        exact ⟨by rw [← HE.out]; rfl, rfl⟩
      · have e : n < 562949953421312 := by omega
        have HE : Hid (7 = Num.sz n) := hs
        clear hc hk2 hk1 hs
        go_wp2_with (go_at_call 60; refine (len_is0 _ _ (by omega)).mono ?_; rintro e w' ⟨rfl, rfl⟩)
        try rw [Exit.noGoto_ret]
        go_ret
        exact ⟨by rw [← HE.out]; rfl, rfl⟩
      · have e : n < 72057594037927936 := by omega
        have HE : Hid (8 = Num.sz n) := hs
        clear hc hk2 hk1 hs
        go_wp2_with (go_at_call 60; refine (len_is0 _ _ (by omega)).mono ?_; rintro e w' ⟨rfl, rfl⟩)
        try rw [Exit.noGoto_ret]
        go_ret
        exact ⟨by rw [← HE.out]; rfl, rfl⟩
end

section
theorem hd {p : Prop} (h : p) : Hid p := h

/-- A list of bytes. -/
def Byt (l : List Int) : Prop := ∀ x ∈ l, 0 ≤ x ∧ x ≤ 255

/-- In the world w the slice v holds the bytes l; its block, if it has one, is one of A. -/
def Bs (A : Nat → Prop) (w : World) (v : Value) (l : List Int) : Prop :=
  Byt l ∧ l.length ≤ 140737488355328 ∧ ((v = .slice none 0 0 ∧ l = []) ∨
    ∃ b off cap, v = .slice (some ⟨b, off, none⟩) l.length cap ∧ l.length ≤ cap ∧ A b ∧ b < w.heap.size ∧ ∀ i, i < l.length → w.cell? ⟨b, off + i, none⟩ = some (.int .u8 (l.getD i 0)))

/-- The first n cells of the slice v may be written. -/
def Fr (w : World) (v : Value) (n : Nat) : Prop :=
  ∀ b off len cap, v = .slice (some ⟨b, off, none⟩) len cap → ∀ i, i < n → w.frozen? ⟨b, off + i, none⟩ = false

/-- From w to w' every block is as it was, but those of S, and new ones. -/
structure Kp (S : Nat → Prop) (w w' : World) : Prop where
  os : w'.os = w.os
  tape : w'.tape = w.tape
  output : w'.output = w.output
  size : w.heap.size ≤ w'.heap.size
  block : ∀ k, k < w.heap.size → ¬ S k → w'.heap[k]? = w.heap[k]?

theorem Kp.refl (S : Nat → Prop) (w : World) : Kp S w w := ⟨rfl, rfl, rfl, Nat.le_refl _, fun _ _ _ => rfl⟩

theorem Kp.trans {S : Nat → Prop} {a b c : World} (h : Kp S a b) (k : Kp S b c) : Kp S a c :=
  ⟨k.os.trans h.os, k.tape.trans h.tape, k.output.trans h.output, Nat.le_trans h.size k.size,
    fun i hi hs => (k.block i (Nat.lt_of_lt_of_le hi h.size) hs).trans (h.block i hi hs)⟩

theorem Kp.mono {S S' : Nat → Prop} {w w' : World} (h : Kp S w w') (hs : ∀ k, k < w.heap.size → S k → S' k) : Kp S' w w' :=
  ⟨h.os, h.tape, h.output, h.size, fun k hk hn => h.block k hk (fun e => hn (hs k hk e))⟩

/-- What a later step may write is new to the first world. -/
theorem Kp.then {S S' : Nat → Prop} {a b c : World} (h : Kp S a b) (k : Kp S' b c) (hs : ∀ i, i < a.heap.size → S' i → S i) : Kp S a c :=
  ⟨k.os.trans h.os, k.tape.trans h.tape, k.output.trans h.output, Nat.le_trans h.size k.size,
    fun i hi hn => (k.block i (Nat.lt_of_lt_of_le hi h.size) (fun e => hn (hs i hi e))).trans (h.block i hi hn)⟩

theorem Kp.drew {S : Nat → Prop} {a w : World} (h : Kp S a w) : Kp S a w.drew := ⟨h.os, h.tape, h.output, h.size, h.block⟩

theorem Kp.alloc {S : Nat → Prop} {a w : World} (h : Kp S a w) (o : Obj) : Kp S a (w.alloc o) :=
  ⟨h.os, h.tape, h.output, Nat.le_trans h.size (by simp), fun k hk hs => (Below.heap_alloc w o k (Nat.lt_of_lt_of_le hk h.size)).trans (h.block k hk hs)⟩

theorem Kp.setCell {S : Nat → Prop} {a w : World} (h : Kp S a w) (p : Addr) (u : Value) (hp : p.block < a.heap.size → S p.block) : Kp S a (w.setCell p u) :=
  ⟨h.os, h.tape, h.output, Nat.le_trans h.size (by simp [World.setCell]), fun k hk hs => (Below.heap_setCell w p u k (fun e => hs (e ▸ hp (e ▸ hk)))).trans (h.block k hk hs)⟩

theorem Kp.cell {S : Nat → Prop} {w w' : World} (h : Kp S w w') {p : Addr} (hp : p.block < w.heap.size) (hs : ¬ S p.block) : w'.cell? p = w.cell? p :=
  World.cell?_of_block (w := w) (h.block p.block hp hs)

theorem Kp.frozen {S : Nat → Prop} {w w' : World} (h : Kp S w w') {p : Addr} (hp : p.block < w.heap.size) (hs : ¬ S p.block) : w'.frozen? p = w.frozen? p :=
  World.frozen?_of_block (w := w) (h.block p.block hp hs)

theorem Kp.below {S : Nat → Prop} {w w' : World} (h : Kp S w w') (B : Nat) (hB : B ≤ w.heap.size) (hs : ∀ k, k < B → ¬ S k) : Below B w w' :=
  ⟨h.os, h.tape, h.output, h.size, fun k hk => h.block k (by omega) (hs k hk)⟩

theorem kpB {w w' : World} (h : Below w.heap.size w w') (S : Nat → Prop) : Kp S w w' :=
  ⟨h.os, h.tape, h.output, h.size, fun k hk _ => h.block k hk⟩

theorem Bs.keep {A : Nat → Prop} {S : Nat → Prop} {w w' : World} {v : Value} {l : List Int} (h : Bs A w v l) (k : Kp S w w') (hs : ∀ b, b < w.heap.size → A b → ¬ S b) : Bs A w' v l := by
  obtain ⟨h1, h2, h3⟩ := h
  refine ⟨h1, h2, ?_⟩
  rcases h3 with h3 | ⟨b, off, cap, hv, hc, ha, hb, hcell⟩
  · exact Or.inl h3
  · refine Or.inr ⟨b, off, cap, hv, hc, ha, Nat.lt_of_lt_of_le hb k.size, fun i hi => ?_⟩
    rw [k.cell (p := ⟨b, off + i, none⟩) hb (hs b hb ha)]
    exact hcell i hi

theorem Bs.weaken {A A' : Nat → Prop} {w : World} {v : Value} {l : List Int} (h : Bs A w v l) (hs : ∀ b, b < w.heap.size → A b → A' b) : Bs A' w v l := by
  obtain ⟨h1, h2, h3⟩ := h
  refine ⟨h1, h2, ?_⟩
  rcases h3 with h3 | ⟨b, off, cap, hv, hc, ha, hb, hcell⟩
  · exact Or.inl h3
  · exact Or.inr ⟨b, off, cap, hv, hc, hs b hb ha, hb, hcell⟩

theorem Bs.len {A : Nat → Prop} {w : World} {v : Value} {l : List Int} (h : Bs A w v l) : ∃ a cap, v = .slice a l.length cap := by
  obtain ⟨_, _, h3⟩ := h
  rcases h3 with ⟨hv, hl⟩ | ⟨b, off, cap, hv, _⟩
  · subst hl; exact ⟨none, 0, hv⟩
  · exact ⟨_, _, hv⟩

theorem Byt.get {l : List Int} (h : Byt l) (i : Nat) : 0 ≤ l.getD i 0 ∧ l.getD i 0 ≤ 255 := by
  by_cases hi : i < l.length
  · rw [List.getD_eq_getElem?_getD, List.getElem?_eq_getElem hi, Option.getD_some]
    exact h _ (List.getElem_mem hi)
  · rw [List.getD_eq_getElem?_getD, List.getElem?_eq_none (by omega)]
    exact ⟨by decide, by decide⟩

theorem Byt.drop {l : List Int} (h : Byt l) (n : Nat) : Byt (l.drop n) := fun x hx => h x (List.mem_of_mem_drop hx)
theorem Byt.take {l : List Int} (h : Byt l) (n : Nat) : Byt (l.take n) := fun x hx => h x (List.mem_of_mem_take hx)
theorem Byt.nil : Byt [] := fun _ hx => by cases hx
theorem Byt.append {l m : List Int} (h : Byt l) (k : Byt m) : Byt (l ++ m) := fun x hx => by
  rcases List.mem_append.1 hx with hx | hx
  · exact h x hx
  · exact k x hx

/-- The cells of a row of bytes. -/
def u8s (l : List Int) : Array Value := (l.map (Value.int .u8)).toArray

theorem u8s_get (l : List Int) (i : Nat) (h : i < l.length) : (u8s l)[i]? = some (.int .u8 (l.getD i 0)) := by
  unfold u8s
  simp [List.getElem?_eq_getElem h]

/-- A new block of bytes is a row of these bytes. -/
theorem Bs.fresh (w : World) (l : List Int) (e : TypeId) (cap : Nat) (hl : Byt l) (hb : l.length ≤ 140737488355328) (hc : l.length ≤ cap) (more : Array Value) (A : Nat → Prop) (hA : A w.heap.size) :
    Bs A (w.alloc (.cells (u8s l ++ more) e)) (.slice (some ⟨w.heap.size, 0, none⟩) l.length cap) l := by
  refine ⟨hl, hb, Or.inr ⟨_, _, _, rfl, hc, hA, by simp, fun i hi => ?_⟩⟩
  have hs : i < (u8s l).size := by simp [u8s]; exact hi
  rw [World.cell?_alloc_at (w := w) _ _ _ _ rfl, Array.getElem?_append_left (by simpa using hs)]
  simpa using u8s_get l i hi

theorem Bs.fresh0 (w : World) (l : List Int) (e : TypeId) (cap : Nat) (hl : Byt l) (hb : l.length ≤ 140737488355328) (hc : l.length ≤ cap) (A : Nat → Prop) (hA : A w.heap.size) :
    Bs A (w.alloc (.cells (u8s l) e)) (.slice (some ⟨w.heap.size, 0, none⟩) l.length cap) l := by
  have h := Bs.fresh w l e cap hl hb hc #[] A hA
  simpa using h

theorem Bs.drew {A : Nat → Prop} {w : World} {v : Value} {l : List Int} (h : Bs A w v l) : Bs A w.drew v l :=
  h.keep ((Kp.refl (fun _ => False) w).drew) (fun _ _ _ h => h)

theorem Fr.ofNil (w : World) (l c n : Nat) : Fr w (.slice none l c) n := fun _ _ _ _ hv => by cases hv
theorem Fr.zero (w : World) (v : Value) : Fr w v 0 := fun _ _ _ _ _ i hi => absurd hi (Nat.not_lt_zero i)

/-- A built-in append whose run is known. -/
theorem wpList_append_run {P : Program} (w : World) {ops : Array Oper} {rest : List Oper} {o : Oper} {a : Act} {Q : Exit → Act → World → Prop}
    (hg : o.guard = none) (s x : Operand) (t tx : TypeId) (hop : o.op = Op.call { callee := Callee.builtin Builtin.append, args := #[s, x], argTypes := #[t, tx] })
    (vs vx : Value) (hs : a.eval s = vs) (hx : a.eval x = vx) (v' : Value) (w' : World) (hrun : (Builtin.append_ #[t, tx] o.type #[vs, vx]).run P w = .ok v' w')
    (hK : wpList P ops Q rest (a.put o.dst v') w') : wpList P ops Q (o :: rest) a w := by
  refine wpList_plain hg fun K hK' => ?_
  unfold Oper.wp
  simp [execOp, hop, resolve, invoke, builtin, hs, hx, hrun, Result.andThen]
  exact hK' _ _ hK

theorem src_bs {P : Program} {A : Nat → Prop} {w : World} {v : Value} {l : List Int} {t e : TypeId} (hk : P.underlying t = some (.slice e)) (h : Bs A w v l) :
    Src P 1 t v l.length (l.map (Value.int .u8)) w := by
  obtain ⟨_, _, h3⟩ := h
  rcases h3 with ⟨hv, hl⟩ | ⟨b, off, cap, hv, _, _, _, hc⟩
  · subst hv; subst hl; exact Src.ofNil w hk 0
  · subst hv
    refine Src.ofSlice w hk ⟨b, off, none⟩ l.length cap _ (by simp) (fun j u hj => ?_) (fun u hu => ?_)
    · have hj' : j < l.length := by
        by_cases hh : j < l.length
        · exact hh
        · rw [List.getElem?_eq_none (by simp; omega)] at hj; cases hj
      have := hc j hj'
      rw [List.getElem?_map, List.getElem?_eq_getElem hj'] at hj
      simp only [Option.map_some, Option.some.injEq] at hj
      rw [List.getD_eq_getElem?_getD, List.getElem?_eq_getElem hj', Option.getD_some] at this
      rw [← hj, Addr.add_lit]
      exact this
    · obtain ⟨_, _, rfl⟩ := List.mem_map.1 hu
      rfl

/-- An append onto a row of bytes without spare room, of at least one byte: a new row. -/
theorem append_grow {P : Program} {w : World} {t tx ty e : TypeId} {i : TypeInfo} (ht : P.underlying t = some (.slice e)) (hi : P.info? e = some i) (hz : i.zero = some (.int .u8 0)) (hs1 : i.size = 1) (hb1 : i.bytes = 1)
    {A : Nat → Prop} {a : Option Addr} {ld l : List Int} {x : Value} (hd : Bs A w (.slice a ld.length ld.length) ld) (hx : Src P 1 tx x l.length (l.map (Value.int .u8)) w) (hl : Byt l) (h0 : 0 < l.length) (hb : ld.length + l.length ≤ 140737488355328) :
    ∃ v' w', (Builtin.append_ #[t, tx] ty #[.slice a ld.length ld.length, x]).run P w = .ok v' w' ∧ Bs (fun b => w.heap.size ≤ b) w' v' (ld ++ l) ∧ Fr w' v' (ld ++ l).length ∧ Below w.heap.size w w' := by
  have hold : (Builtin.firstCells i.size ld.length (.slice a ld.length ld.length)).run P w.drew = .ok (ld.map (Value.int .u8)).toArray w.drew := by
    have h := (src_bs (P := P) (t := t) ht hd).cellsD
    rw [hs1]; exact h
  have hfit : Builtin.nextslicecap (ld.length + l.length) ld.length * i.bytes ≤ 281474976710656 := growslice_fits (by omega) (by rw [hb1]; omega)
  have hrun := run_append_grow_src (P := P) w t tx ty e i (.int .u8 0) ht hi hz a ld.length ld.length _ hold x l.length _ (by rw [hs1]; exact hx) (by omega) (by omega) hfit
  refine ⟨_, _, hrun, ?_, ?_, ?_⟩
  · have h := Bs.fresh w.drew (ld ++ l) e (grownCap w (ld.length + l.length) ld.length e) (hd.1.append hl) (by simpa using hb) (by simpa using grownCap_ge w (ld.length + l.length) ld.length e) (Builtin.zeroCells (Value.int .u8 0).cells (grownCap w (ld.length + l.length) ld.length e - (ld.length + l.length))) (fun b => w.heap.size ≤ b) (Nat.le_refl _)
    rw [List.length_append] at h
    unfold u8s at h
    rw [List.map_append] at h
    exact h
  · intro b off len cap hv j _
    simp only [Value.slice.injEq, Option.some.injEq, Addr.mk.injEq] at hv
    obtain ⟨⟨hb', _, _⟩, _, _⟩ := hv
    rw [← hb']
    exact World.frozen?_alloc_at (w := w.drew) _ _ _ _ rfl
  · exact ((Below.refl _ _).drew).alloc (by simp) _

/-- An append of nothing onto a row that is there. -/
theorem append_none {P : Program} {w : World} {t tx ty e : TypeId} {i : TypeInfo} (ht : P.underlying t = some (.slice e)) (hi : P.info? e = some i) (hs1 : i.size = 1)
    (b off n cap : Nat) {x : Value} (hx : Src P 1 tx x 0 [] w) (hc : n ≤ cap) :
    (Builtin.append_ #[t, tx] ty #[.slice (some ⟨b, off, none⟩) n cap, x]).run P w = .ok (.slice (some ⟨b, off, none⟩) n cap) w := by
  exact run_append_room_src (P := P) w t tx ty e i ht hi b off n cap x 0 [] (by rw [hs1]; exact hx) (by simpa using hc) (fun j hj => by cases hj) (fun j hj => by cases hj)
end

section
theorem i5 : Try.prog.info? 5 = some Try.t5 := by kernel_rfl
theorem z5 : Try.t5.zero = some (.int .u8 0) := by kernel_rfl
theorem s5 : Try.t5.size = 1 := by kernel_rfl
theorem b5 : Try.t5.bytes = 1 := by kernel_rfl

set_option maxHeartbeats 400000 in
theorem clone_nil (w : World) :
    Calls Try.prog 43 #[.slice none 0 0] w fun e w' => e = .returned (.slice none 0 0) ∧ w' = w := by
  have q22 : ∀ (w : World) (a : Option Addr) (n c n' c' : Nat), (binOp .eql 27 (.slice a n c) (.slice none n' c')).run Try.prog w = .ok (.bool a.isNone) w := fun w a n c n' c' => Lib.run_eql_slice_nil w _ _ a n c n' c' Try.underlying27
  go_enter Try.func43, Try.ntmps43
  go_wp2
  go_ret
  exact ⟨rfl, rfl⟩

set_option maxHeartbeats 400000 in
/-- A copy of a row that is there, by the run of its append. -/
theorem clone_run (x : Addr) (n cap : Nat) (w : World) (v' : Value) (w1 : World)
    (hrun : (Builtin.append_ #[27, 27] 27 #[.slice (some ⟨w.heap.size, 0, none⟩) 0 0, .slice (some x) n cap]).run Try.prog (w.alloc (.cells #[] 5)) = .ok v' w1) :
    Calls Try.prog 43 #[.slice (some x) n cap] w fun e w' => e = .returned v' ∧ w' = w1 := by
  have q22 : ∀ (w : World) (a : Option Addr) (n c n' c' : Nat), (binOp .eql 27 (.slice a n c) (.slice none n' c')).run Try.prog w = .ok (.bool a.isNone) w := fun w a n c n' c' => Lib.run_eql_slice_nil w _ _ a n c n' c' Try.underlying27
  have HR := hrun
  replace HR : Hid _ := HR
  clear hrun
  go_enter Try.func43, Try.ntmps43
  go_wp2_with (at_builtin; refine wpList_append_run _ rfl _ _ _ _ rfl _ _ rfl rfl v' w1 HR.out ?_)
  go_ret
  exact ⟨rfl, rfl⟩

theorem clone_any0 {A : Nat → Prop} {w : World} {v : Value} {l : List Int} (h : Bs A w v l) :
    Calls Try.prog 43 #[v] w fun e w' => ∃ v', e = .returned v' ∧ Bs (fun b => w.heap.size ≤ b) w' v' l ∧ Fr w' v' l.length ∧ Below w.heap.size w w' := by
  obtain ⟨h1, h2, h3⟩ := h
  rcases h3 with ⟨rfl, rfl⟩ | ⟨b, off, cap, rfl, hc, hA, hb, hcell⟩
  · refine (clone_nil w).mono ?_
    rintro e w' ⟨rfl, rfl⟩
    exact ⟨_, rfl, ⟨h1, h2, Or.inl ⟨rfl, rfl⟩⟩, Fr.ofNil _ _ _ _, Below.refl _ _⟩
  · have hbs : Bs A (w.alloc (.cells #[] 5)) (.slice (some ⟨b, off, none⟩) l.length cap) l :=
      Bs.keep (S := fun _ => False) (w := w) ⟨h1, h2, Or.inr ⟨b, off, cap, rfl, hc, hA, hb, hcell⟩⟩ ((Kp.refl _ _).alloc _) (fun _ _ _ hf => hf)
    have hsrc := src_bs (P := Try.prog) (t := 27) Try.underlying27 hbs
    have hd : Bs (fun b => w.heap.size ≤ b) (w.alloc (.cells #[] 5)) (.slice (some ⟨w.heap.size, 0, none⟩) ([] : List Int).length ([] : List Int).length) [] :=
      ⟨Byt.nil, by simp, Or.inr ⟨_, _, _, rfl, Nat.le_refl _, Nat.le_refl _, by simp, fun i hi => by cases hi⟩⟩
    by_cases h0 : 0 < l.length
    · obtain ⟨v', w1, hrun, r1, r2, r3⟩ := append_grow (ty := 27) Try.underlying27 i5 z5 s5 b5 hd hsrc h1 h0 (by simpa using h2)
      refine (clone_run ⟨b, off, none⟩ l.length cap w v' w1 hrun).mono ?_
      rintro e w' ⟨rfl, rfl⟩
      refine ⟨_, rfl, r1.weaken (fun k _ hk => ?_), r2, ?_⟩
      · have : (w.alloc (.cells #[] 5)).heap.size = w.heap.size + 1 := by simp
        omega
      · exact ((Below.refl _ _).alloc (Nat.le_refl _) _).trans (r3.mono (by simp))
    · have hl : l = [] := List.length_eq_zero_iff.1 (by omega)
      subst hl
      refine (clone_run ⟨b, off, none⟩ 0 cap w _ _ (append_none (ty := 27) Try.underlying27 i5 s5 w.heap.size 0 0 0 hsrc (Nat.le_refl _))).mono ?_
      rintro e w' ⟨rfl, rfl⟩
      exact ⟨_, rfl, hd, Fr.zero _ _, (Below.refl _ _).alloc (Nat.le_refl _) _⟩

/-- How bytes.Clone ends: a copy, in new memory. -/
def CloneEnd (w : World) (l : List Int) (e : Ending) (w' : World) : Prop :=
  ∃ a cap, e = .returned (.slice a l.length cap) ∧ Bs (fun b => w.heap.size ≤ b) w' (.slice a l.length cap) l ∧ Fr w' (.slice a l.length cap) l.length ∧ Below w.heap.size w w'

theorem clone_any {A : Nat → Prop} {w : World} {v : Value} {l : List Int} (h : Bs A w v l) :
    Calls Try.prog 43 #[v] w fun e w' => CloneEnd w l e w' := by
  refine (clone_any0 h).mono ?_
  rintro e w' ⟨v', rfl, hb, hf, hk⟩
  obtain ⟨a, cap, rfl⟩ := hb.len
  exact ⟨a, cap, rfl, hb, hf, hk⟩

/-- An empty row, wherever it lies. -/
theorem clone_emp (w : World) (x : Addr) (cap : Nat) :
    Calls Try.prog 43 #[.slice (some x) 0 cap] w fun e w' => CloneEnd w [] e w' := by
  have hsrc : Src Try.prog 1 27 (.slice (some x) 0 cap) 0 [] (w.alloc (.cells #[] 5)) :=
    Src.ofSlice _ Try.underlying27 x 0 cap [] (by simp) (fun j u hj => by simp at hj) (fun u hu => by cases hu)
  refine (clone_run x 0 cap w _ _ (append_none (ty := 27) Try.underlying27 i5 s5 w.heap.size 0 0 0 hsrc (Nat.le_refl _))).mono ?_
  rintro e w' ⟨rfl, rfl⟩
  exact ⟨_, _, rfl, ⟨Byt.nil, by simp, Or.inr ⟨_, _, _, rfl, Nat.le_refl _, Nat.le_refl _, by simp, fun i hi => by cases hi⟩⟩, Fr.zero _ _, (Below.refl _ _).alloc (Nat.le_refl _) _⟩

/-- In the world w the block rb is a reader, with the bytes l left and the error e. -/
structure Rd (RB : Nat) (w : World) (rb : Nat) (l : List Int) (e : Int) : Prop where
  lt : rb < w.heap.size
  made : w.cell? ⟨rb, 0, none⟩ = some (.bool true)
  left : ∃ v, w.cell? ⟨rb, 1, none⟩ = some v ∧ Bs (fun b => RB ≤ b ∧ b < rb) w v l
  err : w.cell? ⟨rb, 2, none⟩ = some (.int .i64 e)
  free1 : w.frozen? ⟨rb, 1, none⟩ = false
  free2 : w.frozen? ⟨rb, 2, none⟩ = false

/-- How digits.New ends. -/
def NewEnd (w : World) (l : List Int) (e : Ending) (w' : World) : Prop :=
  ∃ rb, e = .returned (.pointer (some ⟨rb, 0, none⟩)) ∧ w.heap.size ≤ rb ∧ Rd w.heap.size w' rb l 0 ∧ Below w.heap.size w w'

set_option maxHeartbeats 400000 in
/-- digits.New: a reader of a copy. -/
theorem New_of {w : World} {v : Value} {l : List Int} (h : Calls Try.prog 43 #[v] w fun e w' => CloneEnd w l e w') :
    Calls Try.prog 27 #[v] w fun e w' => NewEnd w l e w' := by
  have H : Hid (Calls Try.prog 43 #[v] w fun e w' => CloneEnd w l e w') := h
  clear h
  go_enter Try.func27, Try.ntmps27
  go_wp2_with (go_at_call 43; refine (H.out).mono ?_; rintro e w1 ⟨a, cap, rfl, hb, hf, hk⟩)
  go_ret
  refine ⟨w1.heap.size, rfl, hk.size, ?_, hk.alloc hk.size _⟩
  refine ⟨by simp, by simp, ⟨_, by simp; rfl, ?_⟩, by simp, by simp, by simp⟩
  obtain ⟨h1, h2, h3⟩ := hb
  refine ⟨h1, h2, ?_⟩
  rcases h3 with h3 | ⟨b, off, c, hv, hc, ha, hlt, hcell⟩
  · exact Or.inl h3
  · refine Or.inr ⟨b, off, c, hv, hc, ⟨ha, hlt⟩, by simp; omega, fun i hi => ?_⟩
    rw [World.cell?_alloc_past (w := w1) _ _ _ hlt]
    exact hcell i hi

theorem New_any {A : Nat → Prop} {w : World} {v : Value} {l : List Int} (h : Bs A w v l) :
    Calls Try.prog 27 #[v] w fun e w' => NewEnd w l e w' := New_of (clone_any h)
end

section
variable {RB : Nat}

set_option maxHeartbeats 400000 in
theorem Err_any {w : World} {rb : Nat} {l : List Int} {e0 : Int} (h : Rd RB w rb l e0) :
    Calls Try.prog 29 #[.pointer (some ⟨rb, 0, none⟩)] w fun e w' => e = .returned (.int .i64 e0) ∧ w' = w := by
  obtain ⟨h0, h1, ⟨v, h2, h3⟩, h4, h5, h6⟩ := h
  clear h0 h2 h3 h5 h6
  go_enter Try.func29, Try.ntmps29
  go_wp2
  go_ret
  exact ⟨rfl, rfl⟩

set_option maxHeartbeats 400000 in
theorem Left_ok {w : World} {rb : Nat} {l : List Int} (h : Rd RB w rb l 0) :
    Calls Try.prog 30 #[.pointer (some ⟨rb, 0, none⟩)] w fun e w' => e = .returned (.int .i64 l.length) ∧ w' = w := by
  have H : Hid (Rd RB w rb l 0) := h
  obtain ⟨h0, h1, ⟨v, h2, h3⟩, h4, h5, h6⟩ := h
  obtain ⟨a, cap, rfl⟩ := h3.len
  clear h0 h3 h5 h6 h1 h4
  go_enter Try.func30, Try.ntmps30
  go_wp2_with (go_at_call 29; refine (Err_any H.out).mono ?_; rintro e w' ⟨rfl, rfl⟩)
  go_ret
  exact ⟨rfl, rfl⟩

set_option maxHeartbeats 400000 in
theorem Left_bad {w : World} {rb : Nat} {l : List Int} {e0 : Int} (h : Rd RB w rb l e0) (he : e0 ≠ 0) :
    Calls Try.prog 30 #[.pointer (some ⟨rb, 0, none⟩)] w fun e w' => e = .returned (.int .i64 0) ∧ w' = w := by
  have H : Hid (Rd RB w rb l e0) := h
  have hn : (e0 != 0) = true := by simpa using he
  clear h he
  go_enter Try.func30, Try.ntmps30
  go_wp2_with (go_at_call 29; refine (Err_any H.out).mono ?_; rintro e w' ⟨rfl, rfl⟩)
  go_ret
  exact ⟨rfl, rfl⟩

/-- A reader behind a store of what is left and of the error. -/
theorem Rd.fail {w : World} {rb : Nat} {l : List Int} {e0 : Int} (h : Rd RB w rb l e0) (e1 : Int) :
    Rd RB ((w.setCell ⟨rb, 2, none⟩ (.int .i64 e1)).setCell ⟨rb, 1, none⟩ (.slice none 0 0)) rb [] e1 := by
  obtain ⟨h0, h1, ⟨v, h2, h3⟩, h4, h5, h6⟩ := h
  refine ⟨by simpa using h0, ?_, ⟨.slice none 0 0, ?_, ⟨Byt.nil, by simp, Or.inl ⟨rfl, rfl⟩⟩⟩, ?_, by simpa using h5, by simpa using h6⟩
  · simp [go_sem, h1]
  · simp [go_sem, h2]
  · simp [go_sem, h4]

theorem kp_fail (w : World) (rb : Nat) (x y : Value) : Kp (fun b => b = rb) w ((w.setCell ⟨rb, 2, none⟩ x).setCell ⟨rb, 1, none⟩ y) :=
  ((Kp.refl (fun b => b = rb) w).setCell ⟨rb, 2, none⟩ x (fun _ => rfl)).setCell ⟨rb, 1, none⟩ y (fun _ => rfl)

set_option maxHeartbeats 400000 in
theorem Fail_new {w : World} {rb : Nat} {l : List Int} {e1 : Int} (h : Rd RB w rb l 0) (he : e1 ≠ 0) :
    Calls Try.prog 45 #[.pointer (some ⟨rb, 0, none⟩), .int .i64 e1] w fun e w' => e = .returned (.tuple #[]) ∧ w' = (w.setCell ⟨rb, 2, none⟩ (.int .i64 e1)).setCell ⟨rb, 1, none⟩ (.slice none 0 0) := by
  have H : Hid (Rd RB w rb l 0) := h
  obtain ⟨h0, h1, ⟨v, h2, h3⟩, h4, h5, h6⟩ := h
  clear h0 h1 h3
  have hn : (e1 == 0) = false := by simpa using he
  clear he
  go_enter Try.func45, Try.ntmps45
  go_wp2_with (go_at_call 29; refine (Err_any H.out).mono ?_; rintro e w' ⟨rfl, rfl⟩)
  go_end0
  exact ⟨rfl, rfl⟩

set_option maxHeartbeats 400000 in
/-- Behind an error nothing is kept. -/
theorem Fail_old {w : World} {rb : Nat} {l : List Int} {e0 e1 : Int} (h : Rd RB w rb l e0) (he : e0 ≠ 0) (h1 : e1 ≠ 0) :
    Calls Try.prog 45 #[.pointer (some ⟨rb, 0, none⟩), .int .i64 e1] w fun e w' => e = .returned (.tuple #[]) ∧ w' = w := by
  have H : Hid (Rd RB w rb l e0) := h
  have hn : (e1 == 0) = false := by simpa using h1
  have hm : (e0 != 0) = true := by simpa using he
  clear h he h1
  go_enter Try.func45, Try.ntmps45
  go_wp2_with (go_at_call 29; refine (Err_any H.out).mono ?_; rintro e w' ⟨rfl, rfl⟩)
  go_returns
  exact ⟨rfl, rfl⟩

set_option maxHeartbeats 400000 in
theorem Fail_ok {w : World} {rb : Nat} :
    Calls Try.prog 45 #[.pointer (some ⟨rb, 0, none⟩), .int .i64 0] w fun e w' => e = .returned (.tuple #[]) ∧ w' = w := by
  go_enter Try.func45, Try.ntmps45
  go_wp2_with fail
  go_returns
  exact ⟨rfl, rfl⟩
end

end Go.Proofs.Yteifaipbckhoiab
