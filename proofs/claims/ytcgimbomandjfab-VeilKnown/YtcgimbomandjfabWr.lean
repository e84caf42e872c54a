/- digits.write: the bytes of a number, in a new block. -/
import Derived.Test.YtcgimbomandjfabSize
import Derived.Handy
import Derived.Test.YtcgimbomandjfabMem
namespace Go.Proofs.Ytcgimbomandjfab
open Go.RowKit

theorem sizeOf_is (k : Nat) (n : Int) (w : World) (h0 : 0 ≤ n) (h1 : n < 72057594037927936) (h : Num.sz n = k) :
    Calls Try.prog 30 #[.int .i64 n] w fun e w' => e = .returned (.int .i64 k) ∧ w' = w := by
  subst h; exact sizeOf_any n w h0 h1

theorem or1 (x : Int) (h0 : 0 ≤ x) (h1 : x < 128) : bits BinOp.or IntKind.u8 x 0 = 0 + x := by
  have h : ∀ y : Fin 128, bits BinOp.or IntKind.u8 (y.val : Int) 0 = 0 + (y.val : Int) := by decide +kernel
  have e := h ⟨x.toNat, by omega⟩
  simp only [Int.toNat_of_nonneg h0] at e
  exact e
theorem or2 (x : Int) (h0 : 0 ≤ x) (h1 : x < 64) : bits BinOp.or IntKind.u8 x 128 = 128 + x := by
  have h : ∀ y : Fin 64, bits BinOp.or IntKind.u8 (y.val : Int) 128 = 128 + (y.val : Int) := by decide +kernel
  have e := h ⟨x.toNat, by omega⟩
  simp only [Int.toNat_of_nonneg h0] at e
  exact e
theorem or3 (x : Int) (h0 : 0 ≤ x) (h1 : x < 32) : bits BinOp.or IntKind.u8 x 192 = 192 + x := by
  have h : ∀ y : Fin 32, bits BinOp.or IntKind.u8 (y.val : Int) 192 = 192 + (y.val : Int) := by decide +kernel
  have e := h ⟨x.toNat, by omega⟩
  simp only [Int.toNat_of_nonneg h0] at e
  exact e
theorem or4 (x : Int) (h0 : 0 ≤ x) (h1 : x < 16) : bits BinOp.or IntKind.u8 x 224 = 224 + x := by
  have h : ∀ y : Fin 16, bits BinOp.or IntKind.u8 (y.val : Int) 224 = 224 + (y.val : Int) := by decide +kernel
  have e := h ⟨x.toNat, by omega⟩
  simp only [Int.toNat_of_nonneg h0] at e
  exact e
theorem or5 (x : Int) (h0 : 0 ≤ x) (h1 : x < 8) : bits BinOp.or IntKind.u8 x 240 = 240 + x := by
  have h : ∀ y : Fin 8, bits BinOp.or IntKind.u8 (y.val : Int) 240 = 240 + (y.val : Int) := by decide +kernel
  have e := h ⟨x.toNat, by omega⟩
  simp only [Int.toNat_of_nonneg h0] at e
  exact e
theorem or6 (x : Int) (h0 : 0 ≤ x) (h1 : x < 4) : bits BinOp.or IntKind.u8 x 248 = 248 + x := by
  have h : ∀ y : Fin 4, bits BinOp.or IntKind.u8 (y.val : Int) 248 = 248 + (y.val : Int) := by decide +kernel
  have e := h ⟨x.toNat, by omega⟩
  simp only [Int.toNat_of_nonneg h0] at e
  exact e
theorem or7 (x : Int) (h0 : 0 ≤ x) (h1 : x < 2) : bits BinOp.or IntKind.u8 x 252 = 252 + x := by
  have h : ∀ y : Fin 2, bits BinOp.or IntKind.u8 (y.val : Int) 252 = 252 + (y.val : Int) := by decide +kernel
  have e := h ⟨x.toNat, by omega⟩
  simp only [Int.toNat_of_nonneg h0] at e
  exact e
theorem or8 (x : Int) (h0 : 0 ≤ x) (h1 : x < 1) : bits BinOp.or IntKind.u8 x 254 = 254 + x := by
  have h : ∀ y : Fin 1, bits BinOp.or IntKind.u8 (y.val : Int) 254 = 254 + (y.val : Int) := by decide +kernel
  have e := h ⟨x.toNat, by omega⟩
  simp only [Int.toNat_of_nonneg h0] at e
  exact e

set_option maxHeartbeats 1000000 in
theorem write1 (n : Int) (w : World) (h0 : 0 ≤ n) (h1 : n < 128) :
    Calls Try.prog 24 #[.int .i64 n] w fun e w' => e = .returned (.slice (some ⟨w.heap.size, 0, none⟩) 1 1) ∧ w' = (w.alloc (.cells #[.int .u8 (n)] 5)).drew := by
  have HZ : Hid (Num.sz n = 1) := by have := Num.sz_cases n (by omega); show _ = _; omega
  have hmk : ∀ w, (Instr.makeSlice 26 (.int .i64 1) (.int .i64 1)).run Try.prog w = .ok (.slice (some ⟨w.heap.size, 0, none⟩) 1 1) (w.alloc (.cells #[.int .u8 0] 5)) := fun _ => by kernel_rfl
  go_enter Try.func24, Try.ntmps24
  go_wp2_with (go_at_call 30; refine (sizeOf_is 1 n _ (by omega) (by omega) HZ.out).mono ?_; rintro e w' ⟨rfl, rfl⟩)
  go_rounds 2
  go_region
  go_wp2
  go_ret
  refine ⟨rfl, ?_⟩
  rw [or1 _ (by omega) (by omega)]
  rw [Int.zero_add]

set_option maxHeartbeats 1000000 in
theorem write2 (n : Int) (w : World) (h0 : 128 ≤ n) (h1 : n < 16384) :
    Calls Try.prog 24 #[.int .i64 n] w fun e w' => e = .returned (.slice (some ⟨w.heap.size, 0, none⟩) 2 2) ∧ w' = (w.alloc (.cells #[.int .u8 (128 + n / 256), .int .u8 (n % 256)] 5)).drew := by
  have HZ : Hid (Num.sz n = 2) := by have := Num.sz_cases n (by omega); show _ = _; omega
  have hmk : ∀ w, (Instr.makeSlice 26 (.int .i64 2) (.int .i64 2)).run Try.prog w = .ok (.slice (some ⟨w.heap.size, 0, none⟩) 2 2) (w.alloc (.cells #[.int .u8 0, .int .u8 0] 5)) := fun _ => by kernel_rfl
  go_enter Try.func24, Try.ntmps24
  go_wp2_with (go_at_call 30; refine (sizeOf_is 2 n _ (by omega) (by omega) HZ.out).mono ?_; rintro e w' ⟨rfl, rfl⟩)
  go_rounds 3
  go_region
  go_wp2
  go_ret
  refine ⟨rfl, ?_⟩
  rw [or2 _ (by omega) (by omega)]

set_option maxHeartbeats 1000000 in
theorem write3 (n : Int) (w : World) (h0 : 16384 ≤ n) (h1 : n < 2097152) :
    Calls Try.prog 24 #[.int .i64 n] w fun e w' => e = .returned (.slice (some ⟨w.heap.size, 0, none⟩) 3 3) ∧ w' = (w.alloc (.cells #[.int .u8 (192 + n / 65536), .int .u8 (n / 256 % 256), .int .u8 (n % 256)] 5)).drew := by
  have HZ : Hid (Num.sz n = 3) := by have := Num.sz_cases n (by omega); show _ = _; omega
  have hmk : ∀ w, (Instr.makeSlice 26 (.int .i64 3) (.int .i64 3)).run Try.prog w = .ok (.slice (some ⟨w.heap.size, 0, none⟩) 3 3) (w.alloc (.cells #[.int .u8 0, .int .u8 0, .int .u8 0] 5)) := fun _ => by kernel_rfl
  go_enter Try.func24, Try.ntmps24
  go_wp2_with (go_at_call 30; refine (sizeOf_is 3 n _ (by omega) (by omega) HZ.out).mono ?_; rintro e w' ⟨rfl, rfl⟩)
  go_rounds 4
  go_region
  go_wp2
  go_ret
  refine ⟨rfl, ?_⟩
  rw [or3 _ (by omega) (by omega)]

set_option maxHeartbeats 1000000 in
theorem write4 (n : Int) (w : World) (h0 : 2097152 ≤ n) (h1 : n < 268435456) :
    Calls Try.prog 24 #[.int .i64 n] w fun e w' => e = .returned (.slice (some ⟨w.heap.size, 0, none⟩) 4 4) ∧ w' = (w.alloc (.cells #[.int .u8 (224 + n / 16777216), .int .u8 (n / 65536 % 256), .int .u8 (n / 256 % 256), .int .u8 (n % 256)] 5)).drew := by
  have HZ : Hid (Num.sz n = 4) := by have := Num.sz_cases n (by omega); show _ = _; omega
  have hmk : ∀ w, (Instr.makeSlice 26 (.int .i64 4) (.int .i64 4)).run Try.prog w = .ok (.slice (some ⟨w.heap.size, 0, none⟩) 4 4) (w.alloc (.cells #[.int .u8 0, .int .u8 0, .int .u8 0, .int .u8 0] 5)) := fun _ => by kernel_rfl
  go_enter Try.func24, Try.ntmps24
  go_wp2_with (go_at_call 30; refine (sizeOf_is 4 n _ (by omega) (by omega) HZ.out).mono ?_; rintro e w' ⟨rfl, rfl⟩)
  go_rounds 5
  go_region
  go_wp2
  go_ret
  refine ⟨rfl, ?_⟩
  rw [or4 _ (by omega) (by omega)]

set_option maxHeartbeats 1000000 in
theorem write5 (n : Int) (w : World) (h0 : 268435456 ≤ n) (h1 : n < 34359738368) :
    Calls Try.prog 24 #[.int .i64 n] w fun e w' => e = .returned (.slice (some ⟨w.heap.size, 0, none⟩) 5 5) ∧ w' = (w.alloc (.cells #[.int .u8 (240 + n / 4294967296), .int .u8 (n / 16777216 % 256), .int .u8 (n / 65536 % 256), .int .u8 (n / 256 % 256), .int .u8 (n % 256)] 5)).drew := by
  have HZ : Hid (Num.sz n = 5) := by have := Num.sz_cases n (by omega); show _ = _; omega
  have hmk : ∀ w, (Instr.makeSlice 26 (.int .i64 5) (.int .i64 5)).run Try.prog w = .ok (.slice (some ⟨w.heap.size, 0, none⟩) 5 5) (w.alloc (.cells #[.int .u8 0, .int .u8 0, .int .u8 0, .int .u8 0, .int .u8 0] 5)) := fun _ => by kernel_rfl
  go_enter Try.func24, Try.ntmps24
  go_wp2_with (go_at_call 30; refine (sizeOf_is 5 n _ (by omega) (by omega) HZ.out).mono ?_; rintro e w' ⟨rfl, rfl⟩)
  go_rounds 6
  go_region
  go_wp2
  go_ret
  refine ⟨rfl, ?_⟩
  rw [or5 _ (by omega) (by omega)]

set_option maxHeartbeats 1000000 in
theorem write6 (n : Int) (w : World) (h0 : 34359738368 ≤ n) (h1 : n < 4398046511104) :
    Calls Try.prog 24 #[.int .i64 n] w fun e w' => e = .returned (.slice (some ⟨w.heap.size, 0, none⟩) 6 6) ∧ w' = (w.alloc (.cells #[.int .u8 (248 + n / 1099511627776), .int .u8 (n / 4294967296 % 256), .int .u8 (n / 16777216 % 256), .int .u8 (n / 65536 % 256), .int .u8 (n / 256 % 256), .int .u8 (n % 256)] 5)).drew := by
  have HZ : Hid (Num.sz n = 6) := by have := Num.sz_cases n (by omega); show _ = _; omega
  have hmk : ∀ w, (Instr.makeSlice 26 (.int .i64 6) (.int .i64 6)).run Try.prog w = .ok (.slice (some ⟨w.heap.size, 0, none⟩) 6 6) (w.alloc (.cells #[.int .u8 0, .int .u8 0, .int .u8 0, .int .u8 0, .int .u8 0, .int .u8 0] 5)) := fun _ => by kernel_rfl
  go_enter Try.func24, Try.ntmps24
  go_wp2_with (go_at_call 30; refine (sizeOf_is 6 n _ (by omega) (by omega) HZ.out).mono ?_; rintro e w' ⟨rfl, rfl⟩)
  go_rounds 7
  go_region
  go_wp2
  go_ret
  refine ⟨rfl, ?_⟩
  rw [or6 _ (by omega) (by omega)]

set_option maxHeartbeats 1000000 in
theorem write7 (n : Int) (w : World) (h0 : 4398046511104 ≤ n) (h1 : n < 562949953421312) :
    Calls Try.prog 24 #[.int .i64 n] w fun e w' => e = .returned (.slice (some ⟨w.heap.size, 0, none⟩) 7 7) ∧ w' = (w.alloc (.cells #[.int .u8 (252 + n / 281474976710656), .int .u8 (n / 1099511627776 % 256), .int .u8 (n / 4294967296 % 256), .int .u8 (n / 16777216 % 256), .int .u8 (n / 65536 % 256), .int .u8 (n / 256 % 256), .int .u8 (n % 256)] 5)).drew := by
  have HZ : Hid (Num.sz n = 7) := by have := Num.sz_cases n (by omega); show _ = _; omega
  have hmk : ∀ w, (Instr.makeSlice 26 (.int .i64 7) (.int .i64 7)).run Try.prog w = .ok (.slice (some ⟨w.heap.size, 0, none⟩) 7 7) (w.alloc (.cells #[.int .u8 0, .int .u8 0, .int .u8 0, .int .u8 0, .int .u8 0, .int .u8 0, .int .u8 0] 5)) := fun _ => by kernel_rfl
  go_enter Try.func24, Try.ntmps24
  go_wp2_with (go_at_call 30; refine (sizeOf_is 7 n _ (by omega) (by omega) HZ.out).mono ?_; rintro e w' ⟨rfl, rfl⟩)
  go_rounds 8
  go_region
  go_wp2
  go_ret
  refine ⟨rfl, ?_⟩
  rw [or7 _ (by omega) (by omega)]

set_option maxHeartbeats 1000000 in
theorem write8 (n : Int) (w : World) (h0 : 562949953421312 ≤ n) (h1 : n < 72057594037927936) :
    Calls Try.prog 24 #[.int .i64 n] w fun e w' => e = .returned (.slice (some ⟨w.heap.size, 0, none⟩) 8 8) ∧ w' = (w.alloc (.cells #[.int .u8 (254), .int .u8 (n / 281474976710656), .int .u8 (n / 1099511627776 % 256), .int .u8 (n / 4294967296 % 256), .int .u8 (n / 16777216 % 256), .int .u8 (n / 65536 % 256), .int .u8 (n / 256 % 256), .int .u8 (n % 256)] 5)).drew := by
  have HZ : Hid (Num.sz n = 8) := by have := Num.sz_cases n (by omega); show _ = _; omega
  have hmk : ∀ w, (Instr.makeSlice 26 (.int .i64 8) (.int .i64 8)).run Try.prog w = .ok (.slice (some ⟨w.heap.size, 0, none⟩) 8 8) (w.alloc (.cells #[.int .u8 0, .int .u8 0, .int .u8 0, .int .u8 0, .int .u8 0, .int .u8 0, .int .u8 0, .int .u8 0] 5)) := fun _ => by kernel_rfl
  go_enter Try.func24, Try.ntmps24
  go_wp2_with (go_at_call 30; refine (sizeOf_is 8 n _ (by omega) (by omega) HZ.out).mono ?_; rintro e w' ⟨rfl, rfl⟩)
  go_rounds 9
  go_region
  go_wp2
  go_ret
  refine ⟨rfl, ?_⟩
  rw [or8 _ (by omega) (by omega)]
  have e0 : n / 72057594037927936 = 0 := by omega
  rw [e0]; rfl

theorem write_any (n : Int) (w : World) (h0 : 0 ≤ n) (h1 : n < 72057594037927936) :
    Calls Try.prog 24 #[.int .i64 n] w fun e w' => e = .returned (.slice (some ⟨w.heap.size, 0, none⟩) (Num.enc n).length (Num.enc n).length) ∧ w' = (w.alloc (.cells (u8s (Num.enc n)) 5)).drew := by
  rcases Num.sz_cases n h0 with h | h | h | h | h | h | h | h
  · rw [Num.enc1 n h.2]; exact write1 n w h0 h.2
  · rw [Num.enc2 n h.2.1 h.2.2]; exact write2 n w h.2.1 h.2.2
  · rw [Num.enc3 n h.2.1 h.2.2]; exact write3 n w h.2.1 h.2.2
  · rw [Num.enc4 n h.2.1 h.2.2]; exact write4 n w h.2.1 h.2.2
  · rw [Num.enc5 n h.2.1 h.2.2]; exact write5 n w h.2.1 h.2.2
  · rw [Num.enc6 n h.2.1 h.2.2]; exact write6 n w h.2.1 h.2.2
  · rw [Num.enc7 n h.2.1 h.2.2]; exact write7 n w h.2.1 h.2.2
  · rw [Num.enc8 n h.2]; exact write8 n w h.2 h1
end Go.Proofs.Ytcgimbomandjfab
