/- The document's answer: in how many bytes a number is written, and its bytes. -/
import Derived.Test.YteifaipbckhoiaaMd
import Derived.Handy
namespace Go.Proofs.Yteifaipbckhoiaa
open Go.RowKit
set_option linter.unusedVariables false

set_option maxHeartbeats 1000000 in
theorem rsize1 (n : Int) (w : World) (h0 : 0 ≤ n) (h1 : n < 128) :
    Calls Try.prog 95 #[.int .i64 n] w fun e w' => e = .returned (.int .i64 1) ∧ w' = w := by
  go_enter Try.func95, Try.ntmps95
  go_wp2_with fail
  refine wp_loop_rounds 1 ?_
  rw [rounds_succ]
  go_wp2
  go_ret
  exact ⟨rfl, rfl⟩

set_option maxHeartbeats 1000000 in
theorem rsize2 (n : Int) (w : World) (h0 : 128 ≤ n) (h1 : n < 16384) :
    Calls Try.prog 95 #[.int .i64 n] w fun e w' => e = .returned (.int .i64 2) ∧ w' = w := by
  have f1 : 128 ≤ n := by omega
  go_enter Try.func95, Try.ntmps95
  go_wp2_with fail
  refine wp_loop_rounds 2 ?_
  rw [rounds_succ]
  go_wp2_with fail
  rw [rounds_succ]
  go_wp2
  go_ret
  exact ⟨rfl, rfl⟩

set_option maxHeartbeats 1000000 in
theorem rsize3 (n : Int) (w : World) (h0 : 16384 ≤ n) (h1 : n < 2097152) :
    Calls Try.prog 95 #[.int .i64 n] w fun e w' => e = .returned (.int .i64 3) ∧ w' = w := by
  have f1 : 128 ≤ n := by omega
  have f2 : 16384 ≤ n := by omega
  go_enter Try.func95, Try.ntmps95
  go_wp2_with fail
  refine wp_loop_rounds 3 ?_
  rw [rounds_succ]
  go_wp2_with fail
  rw [rounds_succ]
  go_wp2_with fail
  rw [rounds_succ]
  go_wp2
  go_ret
  exact ⟨rfl, rfl⟩

set_option maxHeartbeats 1000000 in
theorem rsize4 (n : Int) (w : World) (h0 : 2097152 ≤ n) (h1 : n < 268435456) :
    Calls Try.prog 95 #[.int .i64 n] w fun e w' => e = .returned (.int .i64 4) ∧ w' = w := by
  have f1 : 128 ≤ n := by omega
  have f2 : 16384 ≤ n := by omega
  have f3 : 2097152 ≤ n := by omega
  go_enter Try.func95, Try.ntmps95
  go_wp2_with fail
  refine wp_loop_rounds 4 ?_
  rw [rounds_succ]
  go_wp2_with fail
  rw [rounds_succ]
  go_wp2_with fail
  rw [rounds_succ]
  go_wp2_with fail
  rw [rounds_succ]
  go_wp2
  go_ret
  exact ⟨rfl, rfl⟩

set_option maxHeartbeats 1000000 in
theorem rsize5 (n : Int) (w : World) (h0 : 268435456 ≤ n) (h1 : n < 34359738368) :
    Calls Try.prog 95 #[.int .i64 n] w fun e w' => e = .returned (.int .i64 5) ∧ w' = w := by
  have f1 : 128 ≤ n := by omega
  have f2 : 16384 ≤ n := by omega
  have f3 : 2097152 ≤ n := by omega
  have f4 : 268435456 ≤ n := by omega
  go_enter Try.func95, Try.ntmps95
  go_wp2_with fail
  refine wp_loop_rounds 5 ?_
  rw [rounds_succ]
  go_wp2_with fail
  rw [rounds_succ]
  go_wp2_with fail
  rw [rounds_succ]
  go_wp2_with fail
  rw [rounds_succ]
  go_wp2_with fail
  rw [rounds_succ]
  go_wp2
  go_ret
  exact ⟨rfl, rfl⟩

set_option maxHeartbeats 1000000 in
theorem rsize6 (n : Int) (w : World) (h0 : 34359738368 ≤ n) (h1 : n < 4398046511104) :
    Calls Try.prog 95 #[.int .i64 n] w fun e w' => e = .returned (.int .i64 6) ∧ w' = w := by
  have f1 : 128 ≤ n := by omega
  have f2 : 16384 ≤ n := by omega
  have f3 : 2097152 ≤ n := by omega
  have f4 : 268435456 ≤ n := by omega
  have f5 : 34359738368 ≤ n := by omega
  go_enter Try.func95, Try.ntmps95
  go_wp2_with fail
  refine wp_loop_rounds 6 ?_
  rw [rounds_succ]
  go_wp2_with fail
  rw [rounds_succ]
  go_wp2_with fail
  rw [rounds_succ]
  go_wp2_with fail
  rw [rounds_succ]
  go_wp2_with fail
  rw [rounds_succ]
  go_wp2_with fail
  rw [rounds_succ]
  go_wp2
  go_ret
  exact ⟨rfl, rfl⟩

set_option maxHeartbeats 1000000 in
theorem rsize7 (n : Int) (w : World) (h0 : 4398046511104 ≤ n) (h1 : n < 562949953421312) :
    Calls Try.prog 95 #[.int .i64 n] w fun e w' => e = .returned (.int .i64 7) ∧ w' = w := by
  have f1 : 128 ≤ n := by omega
  have f2 : 16384 ≤ n := by omega
  have f3 : 2097152 ≤ n := by omega
  have f4 : 268435456 ≤ n := by omega
  have f5 : 34359738368 ≤ n := by omega
  have f6 : 4398046511104 ≤ n := by omega
  go_enter Try.func95, Try.ntmps95
  go_wp2_with fail
  refine wp_loop_rounds 7 ?_
  rw [rounds_succ]
  go_wp2_with fail
  rw [rounds_succ]
  go_wp2_with fail
  rw [rounds_succ]
  go_wp2_with fail
  rw [rounds_succ]
  go_wp2_with fail
  rw [rounds_succ]
  go_wp2_with fail
  rw [rounds_succ]
  go_wp2_with fail
  rw [rounds_succ]
  go_wp2
  go_ret
  exact ⟨rfl, rfl⟩

set_option maxHeartbeats 1000000 in
theorem rsize8 (n : Int) (w : World) (h0 : 562949953421312 ≤ n) (h1 : n < 72057594037927936) :
    Calls Try.prog 95 #[.int .i64 n] w fun e w' => e = .returned (.int .i64 8) ∧ w' = w := by
  have f1 : 128 ≤ n := by omega
  have f2 : 16384 ≤ n := by omega
  have f3 : 2097152 ≤ n := by omega
  have f4 : 268435456 ≤ n := by omega
  have f5 : 34359738368 ≤ n := by omega
  have f6 : 4398046511104 ≤ n := by omega
  have f7 : 562949953421312 ≤ n := by omega
  go_enter Try.func95, Try.ntmps95
  go_wp2_with fail
  refine wp_loop_rounds 8 ?_
  rw [rounds_succ]
  go_wp2_with fail
  rw [rounds_succ]
  go_wp2_with fail
  rw [rounds_succ]
  go_wp2_with fail
  rw [rounds_succ]
  go_wp2_with fail
  rw [rounds_succ]
  go_wp2_with fail
  rw [rounds_succ]
  go_wp2_with fail
  rw [rounds_succ]
  go_wp2_with fail
  rw [rounds_succ]
  go_wp2
  go_ret
  exact ⟨rfl, rfl⟩

theorem orB0 (y : Int) (h0 : 0 ≤ y) (h1 : y < 128) : bits BinOp.or IntKind.u8 y 128 = y + 128 := by
  have h : ∀ y : Fin 256, 0 ≤ (y.val : Int) → (y.val : Int) < 128 → bits BinOp.or IntKind.u8 (y.val : Int) 128 = (y.val : Int) + 128 := by decide +kernel
  have e := h ⟨y.toNat, by omega⟩
  simp only [Int.toNat_of_nonneg (show 0 ≤ y by omega)] at e
  exact e h0 h1

theorem orB1 (y : Int) (h0 : 128 ≤ y) (h1 : y < 192) : bits BinOp.or IntKind.u8 y 64 = y + 64 := by
  have h : ∀ y : Fin 256, 128 ≤ (y.val : Int) → (y.val : Int) < 192 → bits BinOp.or IntKind.u8 (y.val : Int) 64 = (y.val : Int) + 64 := by decide +kernel
  have e := h ⟨y.toNat, by omega⟩
  simp only [Int.toNat_of_nonneg (show 0 ≤ y by omega)] at e
  exact e h0 h1

theorem orB2 (y : Int) (h0 : 192 ≤ y) (h1 : y < 224) : bits BinOp.or IntKind.u8 y 32 = y + 32 := by
  have h : ∀ y : Fin 256, 192 ≤ (y.val : Int) → (y.val : Int) < 224 → bits BinOp.or IntKind.u8 (y.val : Int) 32 = (y.val : Int) + 32 := by decide +kernel
  have e := h ⟨y.toNat, by omega⟩
  simp only [Int.toNat_of_nonneg (show 0 ≤ y by omega)] at e
  exact e h0 h1

theorem orB3 (y : Int) (h0 : 224 ≤ y) (h1 : y < 240) : bits BinOp.or IntKind.u8 y 16 = y + 16 := by
  have h : ∀ y : Fin 256, 224 ≤ (y.val : Int) → (y.val : Int) < 240 → bits BinOp.or IntKind.u8 (y.val : Int) 16 = (y.val : Int) + 16 := by decide +kernel
  have e := h ⟨y.toNat, by omega⟩
  simp only [Int.toNat_of_nonneg (show 0 ≤ y by omega)] at e
  exact e h0 h1

theorem orB4 (y : Int) (h0 : 240 ≤ y) (h1 : y < 248) : bits BinOp.or IntKind.u8 y 8 = y + 8 := by
  have h : ∀ y : Fin 256, 240 ≤ (y.val : Int) → (y.val : Int) < 248 → bits BinOp.or IntKind.u8 (y.val : Int) 8 = (y.val : Int) + 8 := by decide +kernel
  have e := h ⟨y.toNat, by omega⟩
  simp only [Int.toNat_of_nonneg (show 0 ≤ y by omega)] at e
  exact e h0 h1

theorem orB5 (y : Int) (h0 : 248 ≤ y) (h1 : y < 252) : bits BinOp.or IntKind.u8 y 4 = y + 4 := by
  have h : ∀ y : Fin 256, 248 ≤ (y.val : Int) → (y.val : Int) < 252 → bits BinOp.or IntKind.u8 (y.val : Int) 4 = (y.val : Int) + 4 := by decide +kernel
  have e := h ⟨y.toNat, by omega⟩
  simp only [Int.toNat_of_nonneg (show 0 ≤ y by omega)] at e
  exact e h0 h1

theorem orB6 (y : Int) (h0 : 252 ≤ y) (h1 : y < 254) : bits BinOp.or IntKind.u8 y 2 = y + 2 := by
  have h : ∀ y : Fin 256, 252 ≤ (y.val : Int) → (y.val : Int) < 254 → bits BinOp.or IntKind.u8 (y.val : Int) 2 = (y.val : Int) + 2 := by decide +kernel
  have e := h ⟨y.toNat, by omega⟩
  simp only [Int.toNat_of_nonneg (show 0 ≤ y by omega)] at e
  exact e h0 h1

/-- A row of bytes in a new block. -/
def RowEnd (w : World) (l : List Int) (e : Ending) (w' : World) : Prop :=
  ∃ k nq, e = .returned (.slice (some ⟨w.heap.size, 0, none⟩) l.length k) ∧ k = l.length ∧ w' = (w.alloc (.cells (u8s l) 5)).drewN nq

set_option maxRecDepth 100000 in
set_option maxHeartbeats 4000000 in
theorem rrow1 (n : Int) (w : World) (h0 : 0 ≤ n) (h1 : n < 128) :
    Calls Try.prog 85 #[.int .i64 n] w fun e w' => RowEnd w [n] e w' := by
  have hmk : ∀ w, (Instr.makeSlice 26 (.int .i64 1) (.int .i64 1)).run Try.prog w = .ok (.slice (some ⟨w.heap.size, 0, none⟩) 1 1) (w.alloc (.cells #[.int .u8 0] 5)) := fun _ => by kernel_rfl
  go_enter Try.func85, Try.ntmps85
  go_wp2_with (go_at_call 95; refine (rsize1 _ _ h0 h1).mono ?_; rintro e w' ⟨rfl, rfl⟩)
  refine wp_loop_rounds 2 ?_
  rw [rounds_succ]
  go_wp2_with fail
  rw [rounds_succ]
  go_wp2_with fail
  have y0 : 0 ≤ n % 256 := by omega
  have y1 : n % 256 < 128 := by omega
  have hy : n % 256 = n - 0 := by omega
  generalize n % 256 = y at y0 y1 hy ⊢
  have HY := hd hy
  clear hy
  refine wp_loop_rounds 1 ?_
  rw [rounds_succ]
  go_wp2
  go_ret
  exact ⟨_, 0, rfl, rfl, by rw [show y = n from by have := HY.out; omega]; rfl⟩

set_option maxRecDepth 100000 in
set_option maxHeartbeats 4000000 in
theorem rrow2 (n : Int) (w : World) (h0 : 128 ≤ n) (h1 : n < 16384) :
    Calls Try.prog 85 #[.int .i64 n] w fun e w' => RowEnd w [128 + n / 256, n % 256] e w' := by
  have hmk : ∀ w, (Instr.makeSlice 26 (.int .i64 2) (.int .i64 2)).run Try.prog w = .ok (.slice (some ⟨w.heap.size, 0, none⟩) 2 2) (w.alloc (.cells #[.int .u8 0, .int .u8 0] 5)) := fun _ => by kernel_rfl
  go_enter Try.func85, Try.ntmps85
  go_wp2_with (go_at_call 95; refine (rsize2 _ _ h0 h1).mono ?_; rintro e w' ⟨rfl, rfl⟩)
  refine wp_loop_rounds 3 ?_
  rw [rounds_succ]
  go_wp2_with fail
  rw [rounds_succ]
  go_wp2_with fail
  rw [rounds_succ]
  go_wp2_with fail
  have y0 : 0 ≤ n / 256 % 256 := by omega
  have y1 : n / 256 % 256 < 64 := by omega
  have hy : n / 256 % 256 = 128 + n / 256 - 128 := by omega
  generalize n / 256 % 256 = y at y0 y1 hy ⊢
  have HY := hd hy
  clear hy
  refine wp_loop_rounds 2 ?_
  rw [rounds_succ]
  go_wp2_with fail
  go_region
  go_wp2_with fail
  rw [orB0 (y) (by omega) (by omega)]
  rw [rounds_succ]
  go_wp2
  go_ret
  exact ⟨_, 1, rfl, rfl, by rw [show y + 128 = 128 + n / 256 from by have := HY.out; omega]; rfl⟩

set_option maxRecDepth 100000 in
set_option maxHeartbeats 4000000 in
theorem rrow3 (n : Int) (w : World) (h0 : 16384 ≤ n) (h1 : n < 2097152) :
    Calls Try.prog 85 #[.int .i64 n] w fun e w' => RowEnd w [192 + n / 65536, n / 256 % 256, n % 256] e w' := by
  have hmk : ∀ w, (Instr.makeSlice 26 (.int .i64 3) (.int .i64 3)).run Try.prog w = .ok (.slice (some ⟨w.heap.size, 0, none⟩) 3 3) (w.alloc (.cells #[.int .u8 0, .int .u8 0, .int .u8 0] 5)) := fun _ => by kernel_rfl
  go_enter Try.func85, Try.ntmps85
  go_wp2_with (go_at_call 95; refine (rsize3 _ _ h0 h1).mono ?_; rintro e w' ⟨rfl, rfl⟩)
  refine wp_loop_rounds 4 ?_
  rw [rounds_succ]
  go_wp2_with fail
  rw [rounds_succ]
  go_wp2_with fail
  rw [rounds_succ]
  go_wp2_with fail
  rw [rounds_succ]
  go_wp2_with fail
  have y0 : 0 ≤ n / 256 / 256 % 256 := by omega
  have y1 : n / 256 / 256 % 256 < 32 := by omega
  have hy : n / 256 / 256 % 256 = 192 + n / 65536 - 192 := by omega
  generalize n / 256 / 256 % 256 = y at y0 y1 hy ⊢
  have HY := hd hy
  clear hy
  refine wp_loop_rounds 3 ?_
  rw [rounds_succ]
  go_wp2_with fail
  go_region
  go_wp2_with fail
  rw [orB0 (y) (by omega) (by omega)]
  rw [rounds_succ]
  go_wp2_with fail
  go_region
  go_wp2_with fail
  rw [orB1 (y + 128) (by omega) (by omega)]
  rw [rounds_succ]
  go_wp2
  go_ret
  exact ⟨_, 2, rfl, rfl, by rw [show y + 128 + 64 = 192 + n / 65536 from by have := HY.out; omega]; rfl⟩

set_option maxRecDepth 100000 in
set_option maxHeartbeats 4000000 in
theorem rrow4 (n : Int) (w : World) (h0 : 2097152 ≤ n) (h1 : n < 268435456) :
    Calls Try.prog 85 #[.int .i64 n] w fun e w' => RowEnd w [224 + n / 16777216, n / 65536 % 256, n / 256 % 256, n % 256] e w' := by
  have hmk : ∀ w, (Instr.makeSlice 26 (.int .i64 4) (.int .i64 4)).run Try.prog w = .ok (.slice (some ⟨w.heap.size, 0, none⟩) 4 4) (w.alloc (.cells #[.int .u8 0, .int .u8 0, .int .u8 0, .int .u8 0] 5)) := fun _ => by kernel_rfl
  go_enter Try.func85, Try.ntmps85
  go_wp2_with (go_at_call 95; refine (rsize4 _ _ h0 h1).mono ?_; rintro e w' ⟨rfl, rfl⟩)
  refine wp_loop_rounds 5 ?_
  rw [rounds_succ]
  go_wp2_with fail
  rw [rounds_succ]
  go_wp2_with fail
  rw [rounds_succ]
  go_wp2_with fail
  rw [rounds_succ]
  go_wp2_with fail
  rw [rounds_succ]
  go_wp2_with fail
  have y0 : 0 ≤ n / 256 / 256 / 256 % 256 := by omega
  have y1 : n / 256 / 256 / 256 % 256 < 16 := by omega
  have hy : n / 256 / 256 / 256 % 256 = 224 + n / 16777216 - 224 := by omega
  generalize n / 256 / 256 / 256 % 256 = y at y0 y1 hy ⊢
  rw [show n / 256 / 256 % 256 = n / 65536 % 256 from by omega]
  have HY := hd hy
  clear hy
  refine wp_loop_rounds 4 ?_
  rw [rounds_succ]
  go_wp2_with fail
  go_region
  go_wp2_with fail
  rw [orB0 (y) (by omega) (by omega)]
  rw [rounds_succ]
  go_wp2_with fail
  go_region
  go_wp2_with fail
  rw [orB1 (y + 128) (by omega) (by omega)]
  rw [rounds_succ]
  go_wp2_with fail
  go_region
  go_wp2_with fail
  rw [orB2 (y + 128 + 64) (by omega) (by omega)]
  rw [rounds_succ]
  go_wp2
  go_ret
  exact ⟨_, 3, rfl, rfl, by rw [show y + 128 + 64 + 32 = 224 + n / 16777216 from by have := HY.out; omega]; rfl⟩

set_option maxRecDepth 100000 in
set_option maxHeartbeats 4000000 in
theorem rrow5 (n : Int) (w : World) (h0 : 268435456 ≤ n) (h1 : n < 34359738368) :
    Calls Try.prog 85 #[.int .i64 n] w fun e w' => RowEnd w [240 + n / 4294967296, n / 16777216 % 256, n / 65536 % 256, n / 256 % 256, n % 256] e w' := by
  have hmk : ∀ w, (Instr.makeSlice 26 (.int .i64 5) (.int .i64 5)).run Try.prog w = .ok (.slice (some ⟨w.heap.size, 0, none⟩) 5 5) (w.alloc (.cells #[.int .u8 0, .int .u8 0, .int .u8 0, .int .u8 0, .int .u8 0] 5)) := fun _ => by kernel_rfl
  go_enter Try.func85, Try.ntmps85
  go_wp2_with (go_at_call 95; refine (rsize5 _ _ h0 h1).mono ?_; rintro e w' ⟨rfl, rfl⟩)
  refine wp_loop_rounds 6 ?_
  rw [rounds_succ]
  go_wp2_with fail
  rw [rounds_succ]
  go_wp2_with fail
  rw [rounds_succ]
  go_wp2_with fail
  rw [rounds_succ]
  go_wp2_with fail
  rw [rounds_succ]
  go_wp2_with fail
  rw [rounds_succ]
  go_wp2_with fail
  have y0 : 0 ≤ n / 256 / 256 / 256 / 256 % 256 := by omega
  have y1 : n / 256 / 256 / 256 / 256 % 256 < 8 := by omega
  have hy : n / 256 / 256 / 256 / 256 % 256 = 240 + n / 4294967296 - 240 := by omega
  generalize n / 256 / 256 / 256 / 256 % 256 = y at y0 y1 hy ⊢
  rw [show n / 256 / 256 / 256 % 256 = n / 16777216 % 256 from by omega]
  rw [show n / 256 / 256 % 256 = n / 65536 % 256 from by omega]
  have HY := hd hy
  clear hy
  refine wp_loop_rounds 5 ?_
  rw [rounds_succ]
  go_wp2_with fail
  go_region
  go_wp2_with fail
  rw [orB0 (y) (by omega) (by omega)]
  rw [rounds_succ]
  go_wp2_with fail
  go_region
  go_wp2_with fail
  rw [orB1 (y + 128) (by omega) (by omega)]
  rw [rounds_succ]
  go_wp2_with fail
  go_region
  go_wp2_with fail
  rw [orB2 (y + 128 + 64) (by omega) (by omega)]
  rw [rounds_succ]
  go_wp2_with fail
  go_region
  go_wp2_with fail
  rw [orB3 (y + 128 + 64 + 32) (by omega) (by omega)]
  rw [rounds_succ]
  go_wp2
  go_ret
  exact ⟨_, 4, rfl, rfl, by rw [show y + 128 + 64 + 32 + 16 = 240 + n / 4294967296 from by have := HY.out; omega]; rfl⟩

set_option maxRecDepth 100000 in
set_option maxHeartbeats 4000000 in
theorem rrow6 (n : Int) (w : World) (h0 : 34359738368 ≤ n) (h1 : n < 4398046511104) :
    Calls Try.prog 85 #[.int .i64 n] w fun e w' => RowEnd w [248 + n / 1099511627776, n / 4294967296 % 256, n / 16777216 % 256, n / 65536 % 256, n / 256 % 256, n % 256] e w' := by
  have hmk : ∀ w, (Instr.makeSlice 26 (.int .i64 6) (.int .i64 6)).run Try.prog w = .ok (.slice (some ⟨w.heap.size, 0, none⟩) 6 6) (w.alloc (.cells #[.int .u8 0, .int .u8 0, .int .u8 0, .int .u8 0, .int .u8 0, .int .u8 0] 5)) := fun _ => by kernel_rfl
  go_enter Try.func85, Try.ntmps85
  go_wp2_with (go_at_call 95; refine (rsize6 _ _ h0 h1).mono ?_; rintro e w' ⟨rfl, rfl⟩)
  refine wp_loop_rounds 7 ?_
  rw [rounds_succ]
  go_wp2_with fail
  rw [rounds_succ]
  go_wp2_with fail
  rw [rounds_succ]
  go_wp2_with fail
  rw [rounds_succ]
  go_wp2_with fail
  rw [rounds_succ]
  go_wp2_with fail
  rw [rounds_succ]
  go_wp2_with fail
  rw [rounds_succ]
  go_wp2_with fail
  have y0 : 0 ≤ n / 256 / 256 / 256 / 256 / 256 % 256 := by omega
  have y1 : n / 256 / 256 / 256 / 256 / 256 % 256 < 4 := by omega
  have hy : n / 256 / 256 / 256 / 256 / 256 % 256 = 248 + n / 1099511627776 - 248 := by omega
  generalize n / 256 / 256 / 256 / 256 / 256 % 256 = y at y0 y1 hy ⊢
  rw [show n / 256 / 256 / 256 / 256 % 256 = n / 4294967296 % 256 from by omega]
  rw [show n / 256 / 256 / 256 % 256 = n / 16777216 % 256 from by omega]
  rw [show n / 256 / 256 % 256 = n / 65536 % 256 from by omega]
  have HY := hd hy
  clear hy
  refine wp_loop_rounds 6 ?_
  rw [rounds_succ]
  go_wp2_with fail
  go_region
  go_wp2_with fail
  rw [orB0 (y) (by omega) (by omega)]
  rw [rounds_succ]
  go_wp2_with fail
  go_region
  go_wp2_with fail
  rw [orB1 (y + 128) (by omega) (by omega)]
  rw [rounds_succ]
  go_wp2_with fail
  go_region
  go_wp2_with fail
  rw [orB2 (y + 128 + 64) (by omega) (by omega)]
  rw [rounds_succ]
  go_wp2_with fail
  go_region
  go_wp2_with fail
  rw [orB3 (y + 128 + 64 + 32) (by omega) (by omega)]
  rw [rounds_succ]
  go_wp2_with fail
  go_region
  go_wp2_with fail
  rw [orB4 (y + 128 + 64 + 32 + 16) (by omega) (by omega)]
  rw [rounds_succ]
  go_wp2
  go_ret
  exact ⟨_, 5, rfl, rfl, by rw [show y + 128 + 64 + 32 + 16 + 8 = 248 + n / 1099511627776 from by have := HY.out; omega]; rfl⟩

set_option maxRecDepth 100000 in
set_option maxHeartbeats 4000000 in
theorem rrow7 (n : Int) (w : World) (h0 : 4398046511104 ≤ n) (h1 : n < 562949953421312) :
    Calls Try.prog 85 #[.int .i64 n] w fun e w' => RowEnd w [252 + n / 281474976710656, n / 1099511627776 % 256, n / 4294967296 % 256, n / 16777216 % 256, n / 65536 % 256, n / 256 % 256, n % 256] e w' := by
  have hmk : ∀ w, (Instr.makeSlice 26 (.int .i64 7) (.int .i64 7)).run Try.prog w = .ok (.slice (some ⟨w.heap.size, 0, none⟩) 7 7) (w.alloc (.cells #[.int .u8 0, .int .u8 0, .int .u8 0, .int .u8 0, .int .u8 0, .int .u8 0, .int .u8 0] 5)) := fun _ => by kernel_rfl
  go_enter Try.func85, Try.ntmps85
  go_wp2_with (go_at_call 95; refine (rsize7 _ _ h0 h1).mono ?_; rintro e w' ⟨rfl, rfl⟩)
  refine wp_loop_rounds 8 ?_
  rw [rounds_succ]
  go_wp2_with fail
  rw [rounds_succ]
  go_wp2_with fail
  rw [rounds_succ]
  go_wp2_with fail
  rw [rounds_succ]
  go_wp2_with fail
  rw [rounds_succ]
  go_wp2_with fail
  rw [rounds_succ]
  go_wp2_with fail
  rw [rounds_succ]
  go_wp2_with fail
  rw [rounds_succ]
  go_wp2_with fail
  have y0 : 0 ≤ n / 256 / 256 / 256 / 256 / 256 / 256 % 256 := by omega
  have y1 : n / 256 / 256 / 256 / 256 / 256 / 256 % 256 < 2 := by omega
  have hy : n / 256 / 256 / 256 / 256 / 256 / 256 % 256 = 252 + n / 281474976710656 - 252 := by omega
  generalize n / 256 / 256 / 256 / 256 / 256 / 256 % 256 = y at y0 y1 hy ⊢
  rw [show n / 256 / 256 / 256 / 256 / 256 % 256 = n / 1099511627776 % 256 from by omega]
  rw [show n / 256 / 256 / 256 / 256 % 256 = n / 4294967296 % 256 from by omega]
  rw [show n / 256 / 256 / 256 % 256 = n / 16777216 % 256 from by omega]
  rw [show n / 256 / 256 % 256 = n / 65536 % 256 from by omega]
  have HY := hd hy
  clear hy
  refine wp_loop_rounds 7 ?_
  rw [rounds_succ]
  go_wp2_with fail
  go_region
  go_wp2_with fail
  rw [orB0 (y) (by omega) (by omega)]
  rw [rounds_succ]
  go_wp2_with fail
  go_region
  go_wp2_with fail
  rw [orB1 (y + 128) (by omega) (by omega)]
  rw [rounds_succ]
  go_wp2_with fail
  go_region
  go_wp2_with fail
  rw [orB2 (y + 128 + 64) (by omega) (by omega)]
  rw [rounds_succ]
  go_wp2_with fail
  go_region
  go_wp2_with fail
  rw [orB3 (y + 128 + 64 + 32) (by omega) (by omega)]
  rw [rounds_succ]
  go_wp2_with fail
  go_region
  go_wp2_with fail
  rw [orB4 (y + 128 + 64 + 32 + 16) (by omega) (by omega)]
  rw [rounds_succ]
  go_wp2_with fail
  go_region
  go_wp2_with fail
  rw [orB5 (y + 128 + 64 + 32 + 16 + 8) (by omega) (by omega)]
  rw [rounds_succ]
  go_wp2
  go_ret
  exact ⟨_, 6, rfl, rfl, by rw [show y + 128 + 64 + 32 + 16 + 8 + 4 = 252 + n / 281474976710656 from by have := HY.out; omega]; rfl⟩

set_option maxRecDepth 100000 in
set_option maxHeartbeats 4000000 in
theorem rrow8 (n : Int) (w : World) (h0 : 562949953421312 ≤ n) (h1 : n < 72057594037927936) :
    Calls Try.prog 85 #[.int .i64 n] w fun e w' => RowEnd w [254, n / 281474976710656, n / 1099511627776 % 256, n / 4294967296 % 256, n / 16777216 % 256, n / 65536 % 256, n / 256 % 256, n % 256] e w' := by
  have hmk : ∀ w, (Instr.makeSlice 26 (.int .i64 8) (.int .i64 8)).run Try.prog w = .ok (.slice (some ⟨w.heap.size, 0, none⟩) 8 8) (w.alloc (.cells #[.int .u8 0, .int .u8 0, .int .u8 0, .int .u8 0, .int .u8 0, .int .u8 0, .int .u8 0, .int .u8 0] 5)) := fun _ => by kernel_rfl
  go_enter Try.func85, Try.ntmps85
  go_wp2_with (go_at_call 95; refine (rsize8 _ _ h0 h1).mono ?_; rintro e w' ⟨rfl, rfl⟩)
  refine wp_loop_rounds 9 ?_
  rw [rounds_succ]
  go_wp2_with fail
  rw [rounds_succ]
  go_wp2_with fail
  rw [rounds_succ]
  go_wp2_with fail
  rw [rounds_succ]
  go_wp2_with fail
  rw [rounds_succ]
  go_wp2_with fail
  rw [rounds_succ]
  go_wp2_with fail
  rw [rounds_succ]
  go_wp2_with fail
  rw [rounds_succ]
  go_wp2_with fail
  rw [rounds_succ]
  go_wp2_with fail
  have y0 : 0 ≤ n / 256 / 256 / 256 / 256 / 256 / 256 / 256 % 256 := by omega
  have y1 : n / 256 / 256 / 256 / 256 / 256 / 256 / 256 % 256 < 1 := by omega
  have hy : n / 256 / 256 / 256 / 256 / 256 / 256 / 256 % 256 = 254 - 254 := by omega
  generalize n / 256 / 256 / 256 / 256 / 256 / 256 / 256 % 256 = y at y0 y1 hy ⊢
  rw [show n / 256 / 256 / 256 / 256 / 256 / 256 % 256 = n / 281474976710656 from by omega]
  rw [show n / 256 / 256 / 256 / 256 / 256 % 256 = n / 1099511627776 % 256 from by omega]
  rw [show n / 256 / 256 / 256 / 256 % 256 = n / 4294967296 % 256 from by omega]
  rw [show n / 256 / 256 / 256 % 256 = n / 16777216 % 256 from by omega]
  rw [show n / 256 / 256 % 256 = n / 65536 % 256 from by omega]
  have HY := hd hy
  clear hy
  refine wp_loop_rounds 8 ?_
  rw [rounds_succ]
  go_wp2_with fail
  go_region
  go_wp2_with fail
  rw [orB0 (y) (by omega) (by omega)]
  rw [rounds_succ]
  go_wp2_with fail
  go_region
  go_wp2_with fail
  rw [orB1 (y + 128) (by omega) (by omega)]
  rw [rounds_succ]
  go_wp2_with fail
  go_region
  go_wp2_with fail
  rw [orB2 (y + 128 + 64) (by omega) (by omega)]
  rw [rounds_succ]
  go_wp2_with fail
  go_region
  go_wp2_with fail
  rw [orB3 (y + 128 + 64 + 32) (by omega) (by omega)]
  rw [rounds_succ]
  go_wp2_with fail
  go_region
  go_wp2_with fail
  rw [orB4 (y + 128 + 64 + 32 + 16) (by omega) (by omega)]
  rw [rounds_succ]
  go_wp2_with fail
  go_region
  go_wp2_with fail
  rw [orB5 (y + 128 + 64 + 32 + 16 + 8) (by omega) (by omega)]
  rw [rounds_succ]
  go_wp2_with fail
  go_region
  go_wp2_with fail
  rw [orB6 (y + 128 + 64 + 32 + 16 + 8 + 4) (by omega) (by omega)]
  rw [rounds_succ]
  go_wp2
  go_ret
  exact ⟨_, 7, rfl, rfl, by rw [show y + 128 + 64 + 32 + 16 + 8 + 4 + 2 = 254 from by have := HY.out; omega]; rfl⟩
end Go.Proofs.Yteifaipbckhoiaa
