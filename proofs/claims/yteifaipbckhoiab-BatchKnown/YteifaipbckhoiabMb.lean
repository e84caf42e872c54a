/- digits.write, U, S, Text; EqBytes. -/
import Derived.Test.YteifaipbckhoiabMa
import Derived.Test.YteifaipbckhoiabProg
import Derived.Handy
import Derived.Deep.QuietTactic
import Derived.BigQuiet
namespace Go.Proofs.Yteifaipbckhoiab
open Go.RowKit
set_option linter.unusedVariables false

section
theorem sizeOf_is (k : Nat) (n : Int) (w : World) (h0 : 0 ≤ n) (h1 : n < 72057594037927936) (h : Num.sz n = k) :
    Calls Try.prog 48 #[.int .i64 n] w fun e w' => e = .returned (.int .i64 k) ∧ w' = w := by
  subst h; exact sizeOf_any n w h0 h1

theorem or1 (x : Int) (h0 : 0 ≤ x) (h1 : x < 128) : bits BinOp.or IntKind.u8 x 0 = 0 + x := by
  have h : ∀ y : Fin 128, bits BinOp.or IntKind.u8 (y.val : Int) 0 = 0 + (y.val : Int) := by decide +kernel
  have e := h ⟨x.toNat, by omega⟩
  simp only [Int.toNat_of_nonneg h0] at e
  exact e
theorem or2 (x : Int) (h0 : 0 ≤ x) (h1 : x < 64) : bits BinOp.or IntKind.u8 x 128 = 128 + x := by
  have h : ∀ y : Fin 64, bits BinOp.or IntKind.u8 (y.val : Int) 128 = 128 + (y.val : Int) := by decide +kernel
  have e := h ⟨x.toNat, by omega⟩
  simp only [Int.toNat_of_nonneg h0] at e
  exact e
theorem or3 (x : Int) (h0 : 0 ≤ x) (h1 : x < 32) : bits BinOp.or IntKind.u8 x 192 = 192 + x := by
  have h : ∀ y : Fin 32, bits BinOp.or IntKind.u8 (y.val : Int) 192 = 192 + (y.val : Int) := by decide +kernel
  have e := h ⟨x.toNat, by omega⟩
  simp only [Int.toNat_of_nonneg h0] at e
  exact e
theorem or4 (x : Int) (h0 : 0 ≤ x) (h1 : x < 16) : bits BinOp.or IntKind.u8 x 224 = 224 + x := by
  have h : ∀ y : Fin 16, bits BinOp.or IntKind.u8 (y.val : Int) 224 = 224 + (y.val : Int) := by decide +kernel
  have e := h ⟨x.toNat, by omega⟩
  simp only [Int.toNat_of_nonneg h0] at e
  exact e
theorem or5 (x : Int) (h0 : 0 ≤ x) (h1 : x < 8) : bits BinOp.or IntKind.u8 x 240 = 240 + x := by
  have h : ∀ y : Fin 8, bits BinOp.or IntKind.u8 (y.val : Int) 240 = 240 + (y.val : Int) := by decide +kernel
  have e := h ⟨x.toNat, by omega⟩
  simp only [Int.toNat_of_nonneg h0] at e
  exact e
theorem or6 (x : Int) (h0 : 0 ≤ x) (h1 : x < 4) : bits BinOp.or IntKind.u8 x 248 = 248 + x := by
  have h : ∀ y : Fin 4, bits BinOp.or IntKind.u8 (y.val : Int) 248 = 248 + (y.val : Int) := by decide +kernel
  have e := h ⟨x.toNat, by omega⟩
  simp only [Int.toNat_of_nonneg h0] at e
  exact e
theorem or7 (x : Int) (h0 : 0 ≤ x) (h1 : x < 2) : bits BinOp.or IntKind.u8 x 252 = 252 + x := by
  have h : ∀ y : Fin 2, bits BinOp.or IntKind.u8 (y.val : Int) 252 = 252 + (y.val : Int) := by decide +kernel
  have e := h ⟨x.toNat, by omega⟩
  simp only [Int.toNat_of_nonneg h0] at e
  exact e
theorem or8 (x : Int) (h0 : 0 ≤ x) (h1 : x < 1) : bits BinOp.or IntKind.u8 x 254 = 254 + x := by
  have h : ∀ y : Fin 1, bits BinOp.or IntKind.u8 (y.val : Int) 254 = 254 + (y.val : Int) := by decide +kernel
  have e := h ⟨x.toNat, by omega⟩
  simp only [Int.toNat_of_nonneg h0] at e
  exact e

set_option maxHeartbeats 1000000 in
theorem write1 (n : Int) (w : World) (h0 : 0 ≤ n) (h1 : n < 128) :
    Calls Try.prog 32 #[.int .i64 n] w fun e w' => e = .returned (.slice (some ⟨w.heap.size, 0, none⟩) 1 1) ∧ w' = (w.alloc (.cells #[.int .u8 (n)] 5)).drew := by
  have HZ : Hid (Num.sz n = 1) := by have := Num.sz_cases n (by omega); show _ = _; omega
  have hmk : ∀ w, (Instr.makeSlice 27 (.int .i64 1) (.int .i64 1)).run Try.prog w = .ok (.slice (some ⟨w.heap.size, 0, none⟩) 1 1) (w.alloc (.cells #[.int .u8 0] 5)) := fun _ => by kernel_rfl
  go_enter Try.func32, Try.ntmps32
  go_wp2_with (go_at_call 48; refine (sizeOf_is 1 n _ (by omega) (by omega) HZ.out).mono ?_; rintro e w' ⟨rfl, rfl⟩)
  go_rounds 2
  go_region
  go_wp2
  go_ret
  refine ⟨rfl, ?_⟩
  rw [or1 _ (by omega) (by omega)]
  rw [Int.zero_add]

set_option maxHeartbeats 1000000 in
theorem write2 (n : Int) (w : World) (h0 : 128 ≤ n) (h1 : n < 16384) :
    Calls Try.prog 32 #[.int .i64 n] w fun e w' => e = .returned (.slice (some ⟨w.heap.size, 0, none⟩) 2 2) ∧ w' = (w.alloc (.cells #[.int .u8 (128 + n / 256), .int .u8 (n % 256)] 5)).drew := by
  have HZ : Hid (Num.sz n = 2) := by have := Num.sz_cases n (by omega); show _ = _; omega
  have hmk : ∀ w, (Instr.makeSlice 27 (.int .i64 2) (.int .i64 2)).run Try.prog w = .ok (.slice (some ⟨w.heap.size, 0, none⟩) 2 2) (w.alloc (.cells #[.int .u8 0, .int .u8 0] 5)) := fun _ => by kernel_rfl
  go_enter Try.func32, Try.ntmps32
  go_wp2_with (go_at_call 48; refine (sizeOf_is 2 n _ (by omega) (by omega) HZ.out).mono ?_; rintro e w' ⟨rfl, rfl⟩)
  go_rounds 3
  go_region
  go_wp2
  go_ret
  refine ⟨rfl, ?_⟩
  rw [or2 _ (by omega) (by omega)]

set_option maxHeartbeats 1000000 in
theorem write3 (n : Int) (w : World) (h0 : 16384 ≤ n) (h1 : n < 2097152) :
    Calls Try.prog 32 #[.int .i64 n] w fun e w' => e = .returned (.slice (some ⟨w.heap.size, 0, none⟩) 3 3) ∧ w' = (w.alloc (.cells #[.int .u8 (192 + n / 65536), .int .u8 (n / 256 % 256), .int .u8 (n % 256)] 5)).drew := by
  have HZ : Hid (Num.sz n = 3) := by have := Num.sz_cases n (by omega); show _ = _; omega
  have hmk : ∀ w, (Instr.makeSlice 27 (.int .i64 3) (.int .i64 3)).run Try.prog w = .ok (.slice (some ⟨w.heap.size, 0, none⟩) 3 3) (w.alloc (.cells #[.int .u8 0, .int .u8 0, .int .u8 0] 5)) := fun _ => by kernel_rfl
  go_enter Try.func32, Try.ntmps32
  go_wp2_with (go_at_call 48; refine (sizeOf_is 3 n _ (by omega) (by omega) HZ.out).mono ?_; rintro e w' ⟨rfl, rfl⟩)
  go_rounds 4
  go_region
  go_wp2
  go_ret
  refine ⟨rfl, ?_⟩
  rw [or3 _ (by omega) (by omega)]

set_option maxHeartbeats 1000000 in
theorem write4 (n : Int) (w : World) (h0 : 2097152 ≤ n) (h1 : n < 268435456) :
    Calls Try.prog 32 #[.int .i64 n] w fun e w' => e = .returned (.slice (some ⟨w.heap.size, 0, none⟩) 4 4) ∧ w' = (w.alloc (.cells #[.int .u8 (224 + n / 16777216), .int .u8 (n / 65536 % 256), .int .u8 (n / 256 % 256), .int .u8 (n % 256)] 5)).drew := by
  have HZ : Hid (Num.sz n = 4) := by have := Num.sz_cases n (by omega); show _ = _; omega
  have hmk : ∀ w, (Instr.makeSlice 27 (.int .i64 4) (.int .i64 4)).run Try.prog w = .ok (.slice (some ⟨w.heap.size, 0, none⟩) 4 4) (w.alloc (.cells #[.int .u8 0, .int .u8 0, .int .u8 0, .int .u8 0] 5)) := fun _ => by kernel_rfl
  go_enter Try.func32, Try.ntmps32
  go_wp2_with (go_at_call 48; refine (sizeOf_is 4 n _ (by omega) (by omega) HZ.out).mono ?_; rintro e w' ⟨rfl, rfl⟩)
  go_rounds 5
  go_region
  go_wp2
  go_ret
  refine ⟨rfl, ?_⟩
  rw [or4 _ (by omega) (by omega)]

set_option maxHeartbeats 1000000 in
theorem write5 (n : Int) (w : World) (h0 : 268435456 ≤ n) (h1 : n < 34359738368) :
    Calls Try.prog 32 #[.int .i64 n] w fun e w' => e = .returned (.slice (some ⟨w.heap.size, 0, none⟩) 5 5) ∧ w' = (w.alloc (.cells #[.int .u8 (240 + n / 4294967296), .int .u8 (n / 16777216 % 256), .int .u8 (n / 65536 % 256), .int .u8 (n / 256 % 256), .int .u8 (n % 256)] 5)).drew := by
  have HZ : Hid (Num.sz n = 5) := by have := Num.sz_cases n (by omega); show _ = _; omega
  have hmk : ∀ w, (Instr.makeSlice 27 (.int .i64 5) (.int .i64 5)).run Try.prog w = .ok (.slice (some ⟨w.heap.size, 0, none⟩) 5 5) (w.alloc (.cells #[.int .u8 0, .int .u8 0, .int .u8 0, .int .u8 0, .int .u8 0] 5)) := fun _ => by kernel_rfl
  go_enter Try.func32, Try.ntmps32
  go_wp2_with (go_at_call 48; refine (sizeOf_is 5 n _ (by omega) (by omega) HZ.out).mono ?_; rintro e w' ⟨rfl, rfl⟩)
  go_rounds 6
  go_region
  go_wp2
  go_ret
  refine ⟨rfl, ?_⟩
  rw [or5 _ (by omega) (by omega)]

set_option maxHeartbeats 1000000 in
theorem write6 (n : Int) (w : World) (h0 : 34359738368 ≤ n) (h1 : n < 4398046511104) :
    Calls Try.prog 32 #[.int .i64 n] w fun e w' => e = .returned (.slice (some ⟨w.heap.size, 0, none⟩) 6 6) ∧ w' = (w.alloc (.cells #[.int .u8 (248 + n / 1099511627776), .int .u8 (n / 4294967296 % 256), .int .u8 (n / 16777216 % 256), .int .u8 (n / 65536 % 256), .int .u8 (n / 256 % 256), .int .u8 (n % 256)] 5)).drew := by
  have HZ : Hid (Num.sz n = 6) := by have := Num.sz_cases n (by omega); show _ = _; omega
  have hmk : ∀ w, (Instr.makeSlice 27 (.int .i64 6) (.int .i64 6)).run Try.prog w = .ok (.slice (some ⟨w.heap.size, 0, none⟩) 6 6) (w.alloc (.cells #[.int .u8 0, .int .u8 0, .int .u8 0, .int .u8 0, .int .u8 0, .int .u8 0] 5)) := fun _ => by kernel_rfl
  go_enter Try.func32, Try.ntmps32
  go_wp2_with (go_at_call 48; refine (sizeOf_is 6 n _ (by omega) (by omega) HZ.out).mono ?_; rintro e w' ⟨rfl, rfl⟩)
  go_rounds 7
  go_region
  go_wp2
  go_ret
  refine ⟨rfl, ?_⟩
  rw [or6 _ (by omega) (by omega)]

set_option maxHeartbeats 1000000 in
theorem write7 (n : Int) (w : World) (h0 : 4398046511104 ≤ n) (h1 : n < 562949953421312) :
    Calls Try.prog 32 #[.int .i64 n] w fun e w' => e = .returned (.slice (some ⟨w.heap.size, 0, none⟩) 7 7) ∧ w' = (w.alloc (.cells #[.int .u8 (252 + n / 281474976710656), .int .u8 (n / 1099511627776 % 256), .int .u8 (n / 4294967296 % 256), .int .u8 (n / 16777216 % 256), .int .u8 (n / 65536 % 256), .int .u8 (n / 256 % 256), .int .u8 (n % 256)] 5)).drew := by
  have HZ : Hid (Num.sz n = 7) := by have := Num.sz_cases n (by omega); show _ = _; omega
  have hmk : ∀ w, (Instr.makeSlice 27 (.int .i64 7) (.int .i64 7)).run Try.prog w = .ok (.slice (some ⟨w.heap.size, 0, none⟩) 7 7) (w.alloc (.cells #[.int .u8 0, .int .u8 0, .int .u8 0, .int .u8 0, .int .u8 0, .int .u8 0, .int .u8 0] 5)) := fun _ => by kernel_rfl
  go_enter Try.func32, Try.ntmps32
  go_wp2_with (go_at_call 48; refine (sizeOf_is 7 n _ (by omega) (by omega) HZ.out).mono ?_; rintro e w' ⟨rfl, rfl⟩)
  go_rounds 8
  go_region
  go_wp2
  go_ret
  refine ⟨rfl, ?_⟩
  rw [or7 _ (by omega) (by omega)]

set_option maxHeartbeats 1000000 in
theorem write8 (n : Int) (w : World) (h0 : 562949953421312 ≤ n) (h1 : n < 72057594037927936) :
    Calls Try.prog 32 #[.int .i64 n] w fun e w' => e = .returned (.slice (some ⟨w.heap.size, 0, none⟩) 8 8) ∧ w' = (w.alloc (.cells #[.int .u8 (254), .int .u8 (n / 281474976710656), .int .u8 (n / 1099511627776 % 256), .int .u8 (n / 4294967296 % 256), .int .u8 (n / 16777216 % 256), .int .u8 (n / 65536 % 256), .int .u8 (n / 256 % 256), .int .u8 (n % 256)] 5)).drew := by
  have HZ : Hid (Num.sz n = 8) := by have := Num.sz_cases n (by omega); show _ = _; omega
  have hmk : ∀ w, (Instr.makeSlice 27 (.int .i64 8) (.int .i64 8)).run Try.prog w = .ok (.slice (some ⟨w.heap.size, 0, none⟩) 8 8) (w.alloc (.cells #[.int .u8 0, .int .u8 0, .int .u8 0, .int .u8 0, .int .u8 0, .int .u8 0, .int .u8 0, .int .u8 0] 5)) := fun _ => by kernel_rfl
  go_enter Try.func32, Try.ntmps32
  go_wp2_with (go_at_call 48; refine (sizeOf_is 8 n _ (by omega) (by omega) HZ.out).mono ?_; rintro e w' ⟨rfl, rfl⟩)
  go_rounds 9
  go_region
  go_wp2
  go_ret
  refine ⟨rfl, ?_⟩
  rw [or8 _ (by omega) (by omega)]
  have e0 : n / 72057594037927936 = 0 := by omega
  rw [e0]; rfl

theorem write_any (n : Int) (w : World) (h0 : 0 ≤ n) (h1 : n < 72057594037927936) :
    Calls Try.prog 32 #[.int .i64 n] w fun e w' => e = .returned (.slice (some ⟨w.heap.size, 0, none⟩) (Num.enc n).length (Num.enc n).length) ∧ w' = (w.alloc (.cells (u8s (Num.enc n)) 5)).drew := by
  rcases Num.sz_cases n h0 with h | h | h | h | h | h | h | h
  · rw [Num.enc1 n h.2]; exact write1 n w h0 h.2
  · rw [Num.enc2 n h.2.1 h.2.2]; exact write2 n w h.2.1 h.2.2
  · rw [Num.enc3 n h.2.1 h.2.2]; exact write3 n w h.2.1 h.2.2
  · rw [Num.enc4 n h.2.1 h.2.2]; exact write4 n w h.2.1 h.2.2
  · rw [Num.enc5 n h.2.1 h.2.2]; exact write5 n w h.2.1 h.2.2
  · rw [Num.enc6 n h.2.1 h.2.2]; exact write6 n w h.2.1 h.2.2
  · rw [Num.enc7 n h.2.1 h.2.2]; exact write7 n w h.2.1 h.2.2
  · rw [Num.enc8 n h.2]; exact write8 n w h.2 h1
end

section
set_option maxHeartbeats 400000 in
theorem fold_neg (n : Int) (w : World) (h0 : n < 0) (h1 : -9007199254740991 ≤ n) :
    Calls Try.prog 86 #[.int .i64 n] w fun e w' => e = .returned (.int .i64 (-2 * n - 1)) ∧ w' = w := by
  go_enter Try.func86, Try.ntmps86
  go_wp2
  go_ret
  exact ⟨rfl, rfl⟩

set_option maxHeartbeats 400000 in
theorem fold_pos (n : Int) (w : World) (h0 : 0 ≤ n) (h1 : n ≤ 9007199254740991) :
    Calls Try.prog 86 #[.int .i64 n] w fun e w' => e = .returned (.int .i64 (2 * n)) ∧ w' = w := by
  go_enter Try.func86, Try.ntmps86
  go_wp2
  go_ret
  exact ⟨rfl, rfl⟩

/-- What stands for a number on either side of 0. -/
def foldI (n : Int) : Int := if n < 0 then -2 * n - 1 else 2 * n

theorem foldI_bd (n : Int) (h0 : -9007199254740991 ≤ n) (h1 : n ≤ 9007199254740991) : 0 ≤ foldI n ∧ foldI n ≤ 18014398509481982 := by
  unfold foldI; split <;> omega

theorem fold_any (n : Int) (w : World) (h0 : -9007199254740991 ≤ n) (h1 : n ≤ 9007199254740991) :
    Calls Try.prog 86 #[.int .i64 n] w fun e w' => e = .returned (.int .i64 (foldI n)) ∧ w' = w := by
  unfold foldI
  by_cases h : n < 0
  · rw [if_pos h]; exact fold_neg n w h h0
  · rw [if_neg h]; exact fold_pos n w (by omega) h1

set_option maxHeartbeats 400000 in
theorem U_ok (n : Int) (w : World) (h0 : 0 ≤ n) (h1 : n ≤ 9007199254740991) :
    Calls Try.prog 19 #[.int .i64 n] w fun e w' => e = .returned (.tuple #[.slice (some ⟨w.heap.size, 0, none⟩) (Num.enc n).length (Num.enc n).length, .int .i64 0]) ∧ w' = (w.alloc (.cells (u8s (Num.enc n)) 5)).drew := by
  go_enter Try.func19, Try.ntmps19
  go_wp2_with (go_at_call 32; refine (write_any _ _ (by omega) (by omega)).mono ?_; rintro e w' ⟨rfl, rfl⟩)
  go_ret2
  exact ⟨rfl, rfl⟩

set_option maxHeartbeats 400000 in
theorem U_low (n : Int) (w : World) (h0 : n < 0) :
    Calls Try.prog 19 #[.int .i64 n] w fun e w' => e = .returned (.tuple #[.slice none 0 0, .int .i64 9]) ∧ w' = w := by
  go_enter Try.func19, Try.ntmps19
  go_wp2
  go_ret2
  exact ⟨rfl, rfl⟩

set_option maxHeartbeats 400000 in
theorem U_high (n : Int) (w : World) (h0 : 9007199254740991 < n) :
    Calls Try.prog 19 #[.int .i64 n] w fun e w' => e = .returned (.tuple #[.slice none 0 0, .int .i64 9]) ∧ w' = w := by
  go_enter Try.func19, Try.ntmps19
  go_wp2
  go_ret2
  exact ⟨rfl, rfl⟩

set_option maxHeartbeats 400000 in
theorem S_ok (n : Int) (w : World) (h0 : -9007199254740991 ≤ n) (h1 : n ≤ 9007199254740991) :
    Calls Try.prog 83 #[.int .i64 n] w fun e w' => e = .returned (.tuple #[.slice (some ⟨w.heap.size, 0, none⟩) (Num.enc (foldI n)).length (Num.enc (foldI n)).length, .int .i64 0]) ∧ w' = (w.alloc (.cells (u8s (Num.enc (foldI n))) 5)).drew := by
  have hf := foldI_bd n h0 h1
  obtain ⟨hf0, hf1⟩ := hf
  go_enter Try.func83, Try.ntmps83
  go_wp2_with (first
    | (go_at_call 86; refine (fold_any _ _ (by omega) (by omega)).mono ?_; rintro e w' ⟨rfl, rfl⟩)
    | (go_at_call 32; refine (write_any _ _ (by omega) (by omega)).mono ?_; rintro e w' ⟨rfl, rfl⟩))
  go_ret2
  exact ⟨rfl, rfl⟩

set_option maxHeartbeats 400000 in
theorem S_low (n : Int) (w : World) (h0 : n < -9007199254740991) :
    Calls Try.prog 83 #[.int .i64 n] w fun e w' => e = .returned (.tuple #[.slice none 0 0, .int .i64 9]) ∧ w' = w := by
  go_enter Try.func83, Try.ntmps83
  go_wp2
  go_ret2
  exact ⟨rfl, rfl⟩

set_option maxHeartbeats 400000 in
theorem S_high (n : Int) (w : World) (h0 : 9007199254740991 < n) :
    Calls Try.prog 83 #[.int .i64 n] w fun e w' => e = .returned (.tuple #[.slice none 0 0, .int .i64 9]) ∧ w' = w := by
  go_enter Try.func83, Try.ntmps83
  go_wp2
  go_ret2
  exact ⟨rfl, rfl⟩

set_option maxHeartbeats 400000 in
theorem unfold_odd (n : Int) (w : World) (h0 : 0 ≤ n) (h1 : n ≤ 18014398509481982) (h : n % 2 = 1) :
    Calls Try.prog 85 #[.int .i64 n] w fun e w' => e = .returned (.int .i64 (-((n + 1) / 2))) ∧ w' = w := by
  have HD : Hid (wrap64 (-(n + 1).tdiv 2) = -((n + 1) / 2)) := by
    show _ = _
    rw [Int.tdiv_eq_ediv_of_nonneg (by omega)]; unfold wrap64; omega
  go_enter Try.func85, Try.ntmps85
  go_wp2
  go_ret
  exact ⟨congrArg (fun x => Ending.returned (Value.int .i64 x)) HD.out, rfl⟩

set_option maxHeartbeats 400000 in
theorem unfold_even (n : Int) (w : World) (h0 : 0 ≤ n) (h1 : n ≤ 18014398509481982) (h : n % 2 = 0) :
    Calls Try.prog 85 #[.int .i64 n] w fun e w' => e = .returned (.int .i64 (n / 2)) ∧ w' = w := by
  go_enter Try.func85, Try.ntmps85
  go_wp2
  go_ret
  exact ⟨rfl, rfl⟩

/-- The way back from 'foldI'. -/
def unfoldI (n : Int) : Int := if n % 2 = 1 then -((n + 1) / 2) else n / 2

theorem unfold_any (n : Int) (w : World) (h0 : 0 ≤ n) (h1 : n ≤ 18014398509481982) :
    Calls Try.prog 85 #[.int .i64 n] w fun e w' => e = .returned (.int .i64 (unfoldI n)) ∧ w' = w := by
  unfold unfoldI
  by_cases h : n % 2 = 1
  · rw [if_pos h]; exact unfold_odd n w h0 h1 h
  · rw [if_neg h]; exact unfold_even n w h0 h1 (by omega)

theorem unfold_fold (n : Int) : unfoldI (foldI n) = n := by
  unfold unfoldI foldI
  repeat' split
  all_goals omega

theorem fold_unfold (n : Int) (h0 : 0 ≤ n) : foldI (unfoldI n) = n := by
  unfold unfoldI foldI
  repeat' split
  all_goals omega
end

section
/-- A text's bytes. -/
def bytesOf (s : ByteArray) : List Int := s.data.toList.map fun b => (b.toNat : Int)

theorem bytesOf_length (s : ByteArray) : (bytesOf s).length = s.size := by
  unfold bytesOf; rw [List.length_map, Array.length_toList]; rfl

theorem bytesOf_byt (s : ByteArray) : Byt (bytesOf s) := by
  intro x hx
  obtain ⟨b, _, rfl⟩ := List.mem_map.1 hx
  have := b.toNat_lt
  omega

theorem enc_byt (n : Int) (h0 : 0 ≤ n) (h1 : n < 72057594037927936) : Byt (Num.enc n) := by
  unfold Num.enc
  repeat' split
  all_goals
    intro x hx
    simp only [List.mem_cons, List.not_mem_nil, or_false] at hx
    omega

theorem src_str {P : Program} {w : World} {t : TypeId} (hk : P.underlying t = some .string) (s : ByteArray) : Src P 1 t (.string s) (bytesOf s).length ((bytesOf s).map (Value.int .u8)) w := by
  have h := Src.ofString (P := P) w hk s
  have e : byteCells s = (bytesOf s).map (Value.int .u8) := by unfold byteCells bytesOf; rw [List.map_map]; rfl
  rw [e] at h
  rw [bytesOf_length]
  exact h

set_option maxHeartbeats 400000 in
theorem Text_much (s : ByteArray) (w : World) (h : 65535 < s.size) :
    Calls Try.prog 36 #[.string s] w fun e w' => e = .returned (.tuple #[.slice none 0 0, .int .i64 5]) ∧ w' = w := by
  have h' : (65535 : Int) < (s.size : Int) := by omega
  go_enter Try.func36, Try.ntmps36
  go_wp2
  go_ret2
  exact ⟨rfl, rfl⟩

set_option maxRecDepth 100000 in
set_option maxHeartbeats 400000 in
theorem Text_run (s : ByteArray) (w : World) (h : s.size ≤ 65535) (v' : Value) (w1 : World)
    (hrun : (Builtin.append_ #[27, 9] 27 #[.slice (some ⟨w.heap.size, 0, none⟩) (Num.enc s.size).length (Num.enc s.size).length, .string s]).run Try.prog (w.alloc (.cells (u8s (Num.enc s.size)) 5)).drew = .ok v' w1) :
    Calls Try.prog 36 #[.string s] w fun e w' => e = .returned (.tuple #[v', .int .i64 0]) ∧ w' = w1 := by
  have h' : (s.size : Int) ≤ 65535 := by omega
  have HR := hd hrun
  clear hrun
  go_enter Try.func36, Try.ntmps36
  go_wp2_with (first
    | (go_at_call 32; refine (write_any _ _ (by omega) (by omega)).mono ?_; rintro e w' ⟨rfl, rfl⟩)
    | (at_builtin; refine wpList_append_run _ rfl _ _ _ _ rfl _ _ rfl rfl v' w1 HR.out ?_))
  go_ret2
  exact ⟨rfl, rfl⟩

def MadeEnd (w : World) (l : List Int) (e : Ending) (w' : World) : Prop :=
  ∃ a cap, e = .returned (.tuple #[.slice a l.length cap, .int .i64 0]) ∧ Bs (fun b => w.heap.size ≤ b) w' (.slice a l.length cap) l ∧ Below w.heap.size w w'

theorem Text_ok (s : ByteArray) (w : World) (h : s.size ≤ 65535) :
    Calls Try.prog 36 #[.string s] w fun e w' => MadeEnd w (Num.enc s.size ++ bytesOf s) e w' := by
  have hb := enc_byt s.size (by omega) (by omega)
  have hl8 := Num.sz_bd s.size (by omega)
  have hel := Num.enc_length s.size
  have hd : Bs (fun b => w.heap.size ≤ b) (w.alloc (.cells (u8s (Num.enc s.size)) 5)).drew (.slice (some ⟨w.heap.size, 0, none⟩) (Num.enc s.size).length (Num.enc s.size).length) (Num.enc s.size) :=
    (Bs.fresh0 w _ 5 _ hb (by omega) (Nat.le_refl _) _ (Nat.le_refl _)).drew
  have hx := src_str (P := Try.prog) (w := (w.alloc (.cells (u8s (Num.enc s.size)) 5)).drew) (t := 9) Try.underlying9 s
  by_cases h0 : 0 < (bytesOf s).length
  · obtain ⟨v', w1, hrun, r1, r2, r3⟩ := append_grow (ty := 27) Try.underlying27 i5 z5 s5 b5 hd hx (bytesOf_byt s) h0 (by rw [bytesOf_length]; omega)
    refine (Text_run s w h v' w1 hrun).mono ?_
    rintro e w' ⟨rfl, rfl⟩
    obtain ⟨a, cap, rfl⟩ := r1.len
    refine ⟨a, cap, rfl, r1.weaken (fun k _ hk => ?_), ?_⟩
    · have : (w.alloc (.cells (u8s (Num.enc s.size)) 5)).drew.heap.size = w.heap.size + 1 := by simp
      omega
    · exact (((Below.refl _ _).alloc (Nat.le_refl _) _).drew).trans (r3.mono (by simp))
  · have hn : bytesOf s = [] := List.length_eq_zero_iff.1 (by omega)
    rw [hn] at hx
    refine (Text_run s w h _ _ (append_none (ty := 27) Try.underlying27 i5 s5 w.heap.size 0 _ _ hx (Nat.le_refl _))).mono ?_
    rintro e w' ⟨rfl, rfl⟩
    rw [hn, List.append_nil]
    exact ⟨_, _, rfl, hd, ((Below.refl _ _).alloc (Nat.le_refl _) _).drew⟩
end

section
set_option maxHeartbeats 400000 in
theorem eq_len (a b : Option Addr) (n m c d : Nat) (w : World) (h : n ≠ m) :
    Calls Try.prog 8 #[.slice a n c, .slice b m d] w fun e w' => e = .returned (.bool false) ∧ w' = w := by
  have h' : ((n : Int) != (m : Int)) = true := by rw [bne_iff_ne]; omega
  go_enter Try.func8, Try.ntmps8
  go_wp2
  go_ret
  exact ⟨rfl, rfl⟩

set_option maxHeartbeats 400000 in
theorem eq_none (a b : Option Addr) (c d : Nat) (w : World) :
    Calls Try.prog 8 #[.slice a 0 c, .slice b 0 d] w fun e w' => e = .returned (.bool true) ∧ w' = w := by
  go_enter Try.func8, Try.ntmps8
  go_wp2
  refine wp_loop_rounds 1 ?_
  rw [rounds_succ]
  go_wp2
  go_ret
  exact ⟨rfl, rfl⟩

theorem take_eq_succ {la lb : List Int} {k : Nat} (h : la.take k = lb.take k) (ha : k < la.length) (hb : k < lb.length) (he : la.getD k 0 = lb.getD k 0) : la.take (k + 1) = lb.take (k + 1) := by
  rw [List.take_succ_eq_append_getElem ha, List.take_succ_eq_append_getElem hb, h]
  rw [List.getD_eq_getElem?_getD, List.getD_eq_getElem?_getD, List.getElem?_eq_getElem ha, List.getElem?_eq_getElem hb] at he
  simp only [Option.getD_some] at he
  rw [he]

def EqEnd (w : World) (la lb : List Int) (e : Ending) (w' : World) : Prop := e = .returned (.bool (decide (la = lb))) ∧ ∃ m, w' = w.drewN m

set_option maxHeartbeats 1000000 in
theorem eq_some (b1 o1 b2 o2 c d n : Nat) (w : World) (la lb : List Int) (hla : la.length = n) (hlb : lb.length = n) (hb : n ≤ 140737488355328) (ha' : Byt la) (hb' : Byt lb)
    (h1 : ∀ i, i < n → w.cell? ⟨b1, o1 + i, none⟩ = some (.int .u8 (la.getD i 0))) (h2 : ∀ i, i < n → w.cell? ⟨b2, o2 + i, none⟩ = some (.int .u8 (lb.getD i 0))) :
    Calls Try.prog 8 #[.slice (some ⟨b1, o1, none⟩) n c, .slice (some ⟨b2, o2, none⟩) n d] w fun e w' => EqEnd w la lb e w' := by
  have H1 := hd h1
  have H2 := hd h2
  have HA : Hid (la.length = n) := hla
  have HB : Hid (lb.length = n) := hlb
  clear h1 h2 hla hlb
  go_enter Try.func8, Try.ntmps8
  go_wp2
  go_loopw [5] (fun i wr => ∃ k : Nat, k ≤ n ∧ i = .int .i64 k ∧ la.take k = lb.take k ∧ ∃ m, wr = w.drewN m) (fun i _ => n - (intOf i).toNat)
  case atStart => exact ⟨0, Nat.zero_le _, rfl, rfl, 0, rfl⟩
  case round =>
    obtain ⟨k, hk, rfl, htk, m, rfl⟩ := hrel
    have HT : Hid (la.take k = lb.take k) := htk
    clear htk
    by_cases hlt : k < n
    · have c1 := H1.out k hlt
      have c2 := H2.out k hlt
      have hlt' : (k : Int) < (n : Int) := by omega
      by_cases he : la.getD k 0 = lb.getD k 0
      · have HE : Hid (la.getD k 0 = lb.getD k 0) := he
        rw [← he] at c2
        clear he
        generalize la.getD k 0 = x at c1 c2
        go_wp2
        go_quiet (fail)
        go_wp2
        go_roundw
        case rel => exact ⟨k + 1, by omega, by go_num, take_eq_succ HT.out (by rw [HA.out]; omega) (by rw [HB.out]; omega) HE.out, _, rfl⟩
        case measure => simp [intOf]; omega
      · have HE : Hid (¬ la = lb) := fun h => he (by rw [h])
        have he' : (la.getD k 0 != lb.getD k 0) = true := by rw [bne_iff_ne]; exact he
        clear he
        generalize la.getD k 0 = x at c1 he'
        generalize lb.getD k 0 = y at c2 he'
        go_wp2
        go_quiet (fail)
        go_wp2
        go_ret
        exact ⟨by rw [decide_eq_false HE.out]; rfl, m + nq, by rw [World.drewN_drewN]⟩
    · have hkn : k = n := by omega
      subst hkn
      go_wp2
      go_ret
      refine ⟨?_, _, rfl⟩
      have h := HT.out
      rw [List.take_of_length_le (by rw [HA.out]; exact Nat.le_refl _), List.take_of_length_le (by rw [HB.out]; exact Nat.le_refl _)] at h
      rw [decide_eq_true h]; rfl

theorem eq_any {A B : Nat → Prop} {w : World} {va vb : Value} {la lb : List Int} (ha : Bs A w va la) (hb : Bs B w vb lb) :
    Calls Try.prog 8 #[va, vb] w fun e w' => EqEnd w la lb e w' := by
  by_cases hn : la.length = lb.length
  · by_cases h0 : la.length = 0
    · obtain ⟨a, c, rfl⟩ := ha.len
      obtain ⟨b, d, rfl⟩ := hb.len
      have e1 : la = [] := List.length_eq_zero_iff.1 h0
      have e2 : lb = [] := List.length_eq_zero_iff.1 (by omega)
      subst e1; subst e2
      refine (eq_none a b c d w).mono ?_
      rintro e w' ⟨rfl, rfl⟩
      exact ⟨rfl, 0, rfl⟩
    · obtain ⟨a1, a2, a3⟩ := ha
      obtain ⟨b1, b2, b3⟩ := hb
      rcases a3 with ⟨_, q⟩ | ⟨x1, x2, x3, rfl, x5, x6, x7, x8⟩
      · rw [q] at h0; exact absurd rfl h0
      rcases b3 with ⟨_, q⟩ | ⟨y1, y2, y3, rfl, y5, y6, y7, y8⟩
      · rw [q] at hn; exact absurd hn h0
      rw [← hn] at y8 ⊢
      exact eq_some x1 x2 y1 y2 x3 y3 la.length w la lb rfl hn.symm a2 a1 b1 x8 y8
  · obtain ⟨a, c, rfl⟩ := ha.len
    obtain ⟨b, d, rfl⟩ := hb.len
    refine (eq_len a b _ _ c d w hn).mono ?_
    rintro e w' ⟨rfl, rfl⟩
    exact ⟨by rw [decide_eq_false (fun h => hn (by rw [h]))], 0, rfl⟩
end

end Go.Proofs.Yteifaipbckhoiab
