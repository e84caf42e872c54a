/- The document's reader: number, of bytes that are there. -/
import Derived.Test.YteifaipbckhoiaaMf
namespace Go.Proofs.Yteifaipbckhoiaa
open Go.RowKit
set_option linter.unusedVariables false

theorem rsize_any (n : Int) (w : World) (h0 : 0 ≤ n) (h1 : n < 72057594037927936) :
    Calls Try.prog 95 #[.int .i64 n] w fun e w' => e = .returned (.int .i64 (Num.sz n)) ∧ w' = w := by
  rcases Num.sz_cases n h0 with h | h | h | h | h | h | h | h
  · rw [h.1]; exact rsize1 n w h0 h.2
  · rw [h.1]; exact rsize2 n w h.2.1 h.2.2
  · rw [h.1]; exact rsize3 n w h.2.1 h.2.2
  · rw [h.1]; exact rsize4 n w h.2.1 h.2.2
  · rw [h.1]; exact rsize5 n w h.2.1 h.2.2
  · rw [h.1]; exact rsize6 n w h.2.1 h.2.2
  · rw [h.1]; exact rsize7 n w h.2.1 h.2.2
  · rw [h.1]; exact rsize8 n w h.2 h1

/-- How the document's 'number' ends, of k bytes that are there. -/
def NumXPost (w : World) (xb b off cap : Nat) (l : List Int) (k : Nat) (most : Int) (e : Ending) (w' : World) : Prop :=
  ∃ nq, ((Num.sz (Num.V l k (k - 1)) ≠ k ∨ most < Num.V l k (k - 1)) ∧ e = .returned (.int .i64 0) ∧ w' = (w.drewN nq).setCell ⟨xb, 1, none⟩ (.int .i64 4)) ∨
    ((Num.sz (Num.V l k (k - 1)) = k ∧ Num.V l k (k - 1) ≤ most) ∧ e = .returned (.int .i64 (Num.V l k (k - 1))) ∧
      ∃ a, (k < l.length → a = some ⟨b, off + k, none⟩) ∧ (a = some ⟨b, off, none⟩ ∨ a = some ⟨b, off + k, none⟩) ∧ w' = (w.drewN nq).setCell ⟨xb, 0, none⟩ (.slice a (l.length - k) (cap - k)))

theorem tb1_0 (x : Int) (h0 : 0 ≤ x) (h1 : x < 128) : (bits BinOp.and IntKind.u8 x 128 != 0) = false := by
  have h : ∀ y : Fin 256, 0 ≤ (y.val : Int) → (y.val : Int) < 128 → (bits BinOp.and IntKind.u8 (y.val : Int) 128 != 0) = false := by decide +kernel
  have e := h ⟨x.toNat, by omega⟩
  simp only [Int.toNat_of_nonneg (show 0 ≤ x by omega)] at e
  exact e h0 h1
theorem tb2_0 (x : Int) (h0 : 128 ≤ x) (h1 : x < 192) : (bits BinOp.and IntKind.u8 x 128 != 0) = true := by
  have h : ∀ y : Fin 256, 128 ≤ (y.val : Int) → (y.val : Int) < 192 → (bits BinOp.and IntKind.u8 (y.val : Int) 128 != 0) = true := by decide +kernel
  have e := h ⟨x.toNat, by omega⟩
  simp only [Int.toNat_of_nonneg (show 0 ≤ x by omega)] at e
  exact e h0 h1
theorem tb2_1 (x : Int) (h0 : 128 ≤ x) (h1 : x < 192) : (bits BinOp.and IntKind.u8 x 64 != 0) = false := by
  have h : ∀ y : Fin 256, 128 ≤ (y.val : Int) → (y.val : Int) < 192 → (bits BinOp.and IntKind.u8 (y.val : Int) 64 != 0) = false := by decide +kernel
  have e := h ⟨x.toNat, by omega⟩
  simp only [Int.toNat_of_nonneg (show 0 ≤ x by omega)] at e
  exact e h0 h1
theorem tb3_0 (x : Int) (h0 : 192 ≤ x) (h1 : x < 224) : (bits BinOp.and IntKind.u8 x 128 != 0) = true := by
  have h : ∀ y : Fin 256, 192 ≤ (y.val : Int) → (y.val : Int) < 224 → (bits BinOp.and IntKind.u8 (y.val : Int) 128 != 0) = true := by decide +kernel
  have e := h ⟨x.toNat, by omega⟩
  simp only [Int.toNat_of_nonneg (show 0 ≤ x by omega)] at e
  exact e h0 h1
theorem tb3_1 (x : Int) (h0 : 192 ≤ x) (h1 : x < 224) : (bits BinOp.and IntKind.u8 x 64 != 0) = true := by
  have h : ∀ y : Fin 256, 192 ≤ (y.val : Int) → (y.val : Int) < 224 → (bits BinOp.and IntKind.u8 (y.val : Int) 64 != 0) = true := by decide +kernel
  have e := h ⟨x.toNat, by omega⟩
  simp only [Int.toNat_of_nonneg (show 0 ≤ x by omega)] at e
  exact e h0 h1
theorem tb3_2 (x : Int) (h0 : 192 ≤ x) (h1 : x < 224) : (bits BinOp.and IntKind.u8 x 32 != 0) = false := by
  have h : ∀ y : Fin 256, 192 ≤ (y.val : Int) → (y.val : Int) < 224 → (bits BinOp.and IntKind.u8 (y.val : Int) 32 != 0) = false := by decide +kernel
  have e := h ⟨x.toNat, by omega⟩
  simp only [Int.toNat_of_nonneg (show 0 ≤ x by omega)] at e
  exact e h0 h1
theorem tb4_0 (x : Int) (h0 : 224 ≤ x) (h1 : x < 240) : (bits BinOp.and IntKind.u8 x 128 != 0) = true := by
  have h : ∀ y : Fin 256, 224 ≤ (y.val : Int) → (y.val : Int) < 240 → (bits BinOp.and IntKind.u8 (y.val : Int) 128 != 0) = true := by decide +kernel
  have e := h ⟨x.toNat, by omega⟩
  simp only [Int.toNat_of_nonneg (show 0 ≤ x by omega)] at e
  exact e h0 h1
theorem tb4_1 (x : Int) (h0 : 224 ≤ x) (h1 : x < 240) : (bits BinOp.and IntKind.u8 x 64 != 0) = true := by
  have h : ∀ y : Fin 256, 224 ≤ (y.val : Int) → (y.val : Int) < 240 → (bits BinOp.and IntKind.u8 (y.val : Int) 64 != 0) = true := by decide +kernel
  have e := h ⟨x.toNat, by omega⟩
  simp only [Int.toNat_of_nonneg (show 0 ≤ x by omega)] at e
  exact e h0 h1
theorem tb4_2 (x : Int) (h0 : 224 ≤ x) (h1 : x < 240) : (bits BinOp.and IntKind.u8 x 32 != 0) = true := by
  have h : ∀ y : Fin 256, 224 ≤ (y.val : Int) → (y.val : Int) < 240 → (bits BinOp.and IntKind.u8 (y.val : Int) 32 != 0) = true := by decide +kernel
  have e := h ⟨x.toNat, by omega⟩
  simp only [Int.toNat_of_nonneg (show 0 ≤ x by omega)] at e
  exact e h0 h1
theorem tb4_3 (x : Int) (h0 : 224 ≤ x) (h1 : x < 240) : (bits BinOp.and IntKind.u8 x 16 != 0) = false := by
  have h : ∀ y : Fin 256, 224 ≤ (y.val : Int) → (y.val : Int) < 240 → (bits BinOp.and IntKind.u8 (y.val : Int) 16 != 0) = false := by decide +kernel
  have e := h ⟨x.toNat, by omega⟩
  simp only [Int.toNat_of_nonneg (show 0 ≤ x by omega)] at e
  exact e h0 h1
theorem tb5_0 (x : Int) (h0 : 240 ≤ x) (h1 : x < 248) : (bits BinOp.and IntKind.u8 x 128 != 0) = true := by
  have h : ∀ y : Fin 256, 240 ≤ (y.val : Int) → (y.val : Int) < 248 → (bits BinOp.and IntKind.u8 (y.val : Int) 128 != 0) = true := by decide +kernel
  have e := h ⟨x.toNat, by omega⟩
  simp only [Int.toNat_of_nonneg (show 0 ≤ x by omega)] at e
  exact e h0 h1
theorem tb5_1 (x : Int) (h0 : 240 ≤ x) (h1 : x < 248) : (bits BinOp.and IntKind.u8 x 64 != 0) = true := by
  have h : ∀ y : Fin 256, 240 ≤ (y.val : Int) → (y.val : Int) < 248 → (bits BinOp.and IntKind.u8 (y.val : Int) 64 != 0) = true := by decide +kernel
  have e := h ⟨x.toNat, by omega⟩
  simp only [Int.toNat_of_nonneg (show 0 ≤ x by omega)] at e
  exact e h0 h1
theorem tb5_2 (x : Int) (h0 : 240 ≤ x) (h1 : x < 248) : (bits BinOp.and IntKind.u8 x 32 != 0) = true := by
  have h : ∀ y : Fin 256, 240 ≤ (y.val : Int) → (y.val : Int) < 248 → (bits BinOp.and IntKind.u8 (y.val : Int) 32 != 0) = true := by decide +kernel
  have e := h ⟨x.toNat, by omega⟩
  simp only [Int.toNat_of_nonneg (show 0 ≤ x by omega)] at e
  exact e h0 h1
theorem tb5_3 (x : Int) (h0 : 240 ≤ x) (h1 : x < 248) : (bits BinOp.and IntKind.u8 x 16 != 0) = true := by
  have h : ∀ y : Fin 256, 240 ≤ (y.val : Int) → (y.val : Int) < 248 → (bits BinOp.and IntKind.u8 (y.val : Int) 16 != 0) = true := by decide +kernel
  have e := h ⟨x.toNat, by omega⟩
  simp only [Int.toNat_of_nonneg (show 0 ≤ x by omega)] at e
  exact e h0 h1
theorem tb5_4 (x : Int) (h0 : 240 ≤ x) (h1 : x < 248) : (bits BinOp.and IntKind.u8 x 8 != 0) = false := by
  have h : ∀ y : Fin 256, 240 ≤ (y.val : Int) → (y.val : Int) < 248 → (bits BinOp.and IntKind.u8 (y.val : Int) 8 != 0) = false := by decide +kernel
  have e := h ⟨x.toNat, by omega⟩
  simp only [Int.toNat_of_nonneg (show 0 ≤ x by omega)] at e
  exact e h0 h1
theorem tb6_0 (x : Int) (h0 : 248 ≤ x) (h1 : x < 252) : (bits BinOp.and IntKind.u8 x 128 != 0) = true := by
  have h : ∀ y : Fin 256, 248 ≤ (y.val : Int) → (y.val : Int) < 252 → (bits BinOp.and IntKind.u8 (y.val : Int) 128 != 0) = true := by decide +kernel
  have e := h ⟨x.toNat, by omega⟩
  simp only [Int.toNat_of_nonneg (show 0 ≤ x by omega)] at e
  exact e h0 h1
theorem tb6_1 (x : Int) (h0 : 248 ≤ x) (h1 : x < 252) : (bits BinOp.and IntKind.u8 x 64 != 0) = true := by
  have h : ∀ y : Fin 256, 248 ≤ (y.val : Int) → (y.val : Int) < 252 → (bits BinOp.and IntKind.u8 (y.val : Int) 64 != 0) = true := by decide +kernel
  have e := h ⟨x.toNat, by omega⟩
  simp only [Int.toNat_of_nonneg (show 0 ≤ x by omega)] at e
  exact e h0 h1
theorem tb6_2 (x : Int) (h0 : 248 ≤ x) (h1 : x < 252) : (bits BinOp.and IntKind.u8 x 32 != 0) = true := by
  have h : ∀ y : Fin 256, 248 ≤ (y.val : Int) → (y.val : Int) < 252 → (bits BinOp.and IntKind.u8 (y.val : Int) 32 != 0) = true := by decide +kernel
  have e := h ⟨x.toNat, by omega⟩
  simp only [Int.toNat_of_nonneg (show 0 ≤ x by omega)] at e
  exact e h0 h1
theorem tb6_3 (x : Int) (h0 : 248 ≤ x) (h1 : x < 252) : (bits BinOp.and IntKind.u8 x 16 != 0) = true := by
  have h : ∀ y : Fin 256, 248 ≤ (y.val : Int) → (y.val : Int) < 252 → (bits BinOp.and IntKind.u8 (y.val : Int) 16 != 0) = true := by decide +kernel
  have e := h ⟨x.toNat, by omega⟩
  simp only [Int.toNat_of_nonneg (show 0 ≤ x by omega)] at e
  exact e h0 h1
theorem tb6_4 (x : Int) (h0 : 248 ≤ x) (h1 : x < 252) : (bits BinOp.and IntKind.u8 x 8 != 0) = true := by
  have h : ∀ y : Fin 256, 248 ≤ (y.val : Int) → (y.val : Int) < 252 → (bits BinOp.and IntKind.u8 (y.val : Int) 8 != 0) = true := by decide +kernel
  have e := h ⟨x.toNat, by omega⟩
  simp only [Int.toNat_of_nonneg (show 0 ≤ x by omega)] at e
  exact e h0 h1
theorem tb6_5 (x : Int) (h0 : 248 ≤ x) (h1 : x < 252) : (bits BinOp.and IntKind.u8 x 4 != 0) = false := by
  have h : ∀ y : Fin 256, 248 ≤ (y.val : Int) → (y.val : Int) < 252 → (bits BinOp.and IntKind.u8 (y.val : Int) 4 != 0) = false := by decide +kernel
  have e := h ⟨x.toNat, by omega⟩
  simp only [Int.toNat_of_nonneg (show 0 ≤ x by omega)] at e
  exact e h0 h1
theorem tb7_0 (x : Int) (h0 : 252 ≤ x) (h1 : x < 254) : (bits BinOp.and IntKind.u8 x 128 != 0) = true := by
  have h : ∀ y : Fin 256, 252 ≤ (y.val : Int) → (y.val : Int) < 254 → (bits BinOp.and IntKind.u8 (y.val : Int) 128 != 0) = true := by decide +kernel
  have e := h ⟨x.toNat, by omega⟩
  simp only [Int.toNat_of_nonneg (show 0 ≤ x by omega)] at e
  exact e h0 h1
theorem tb7_1 (x : Int) (h0 : 252 ≤ x) (h1 : x < 254) : (bits BinOp.and IntKind.u8 x 64 != 0) = true := by
  have h : ∀ y : Fin 256, 252 ≤ (y.val : Int) → (y.val : Int) < 254 → (bits BinOp.and IntKind.u8 (y.val : Int) 64 != 0) = true := by decide +kernel
  have e := h ⟨x.toNat, by omega⟩
  simp only [Int.toNat_of_nonneg (show 0 ≤ x by omega)] at e
  exact e h0 h1
theorem tb7_2 (x : Int) (h0 : 252 ≤ x) (h1 : x < 254) : (bits BinOp.and IntKind.u8 x 32 != 0) = true := by
  have h : ∀ y : Fin 256, 252 ≤ (y.val : Int) → (y.val : Int) < 254 → (bits BinOp.and IntKind.u8 (y.val : Int) 32 != 0) = true := by decide +kernel
  have e := h ⟨x.toNat, by omega⟩
  simp only [Int.toNat_of_nonneg (show 0 ≤ x by omega)] at e
  exact e h0 h1
theorem tb7_3 (x : Int) (h0 : 252 ≤ x) (h1 : x < 254) : (bits BinOp.and IntKind.u8 x 16 != 0) = true := by
  have h : ∀ y : Fin 256, 252 ≤ (y.val : Int) → (y.val : Int) < 254 → (bits BinOp.and IntKind.u8 (y.val : Int) 16 != 0) = true := by decide +kernel
  have e := h ⟨x.toNat, by omega⟩
  simp only [Int.toNat_of_nonneg (show 0 ≤ x by omega)] at e
  exact e h0 h1
theorem tb7_4 (x : Int) (h0 : 252 ≤ x) (h1 : x < 254) : (bits BinOp.and IntKind.u8 x 8 != 0) = true := by
  have h : ∀ y : Fin 256, 252 ≤ (y.val : Int) → (y.val : Int) < 254 → (bits BinOp.and IntKind.u8 (y.val : Int) 8 != 0) = true := by decide +kernel
  have e := h ⟨x.toNat, by omega⟩
  simp only [Int.toNat_of_nonneg (show 0 ≤ x by omega)] at e
  exact e h0 h1
theorem tb7_5 (x : Int) (h0 : 252 ≤ x) (h1 : x < 254) : (bits BinOp.and IntKind.u8 x 4 != 0) = true := by
  have h : ∀ y : Fin 256, 252 ≤ (y.val : Int) → (y.val : Int) < 254 → (bits BinOp.and IntKind.u8 (y.val : Int) 4 != 0) = true := by decide +kernel
  have e := h ⟨x.toNat, by omega⟩
  simp only [Int.toNat_of_nonneg (show 0 ≤ x by omega)] at e
  exact e h0 h1
theorem tb7_6 (x : Int) (h0 : 252 ≤ x) (h1 : x < 254) : (bits BinOp.and IntKind.u8 x 2 != 0) = false := by
  have h : ∀ y : Fin 256, 252 ≤ (y.val : Int) → (y.val : Int) < 254 → (bits BinOp.and IntKind.u8 (y.val : Int) 2 != 0) = false := by decide +kernel
  have e := h ⟨x.toNat, by omega⟩
  simp only [Int.toNat_of_nonneg (show 0 ≤ x by omega)] at e
  exact e h0 h1
theorem tb8_0 (x : Int) (h0 : 254 ≤ x) (h1 : x < 255) : (bits BinOp.and IntKind.u8 x 128 != 0) = true := by
  have h : ∀ y : Fin 256, 254 ≤ (y.val : Int) → (y.val : Int) < 255 → (bits BinOp.and IntKind.u8 (y.val : Int) 128 != 0) = true := by decide +kernel
  have e := h ⟨x.toNat, by omega⟩
  simp only [Int.toNat_of_nonneg (show 0 ≤ x by omega)] at e
  exact e h0 h1
theorem tb8_1 (x : Int) (h0 : 254 ≤ x) (h1 : x < 255) : (bits BinOp.and IntKind.u8 x 64 != 0) = true := by
  have h : ∀ y : Fin 256, 254 ≤ (y.val : Int) → (y.val : Int) < 255 → (bits BinOp.and IntKind.u8 (y.val : Int) 64 != 0) = true := by decide +kernel
  have e := h ⟨x.toNat, by omega⟩
  simp only [Int.toNat_of_nonneg (show 0 ≤ x by omega)] at e
  exact e h0 h1
theorem tb8_2 (x : Int) (h0 : 254 ≤ x) (h1 : x < 255) : (bits BinOp.and IntKind.u8 x 32 != 0) = true := by
  have h : ∀ y : Fin 256, 254 ≤ (y.val : Int) → (y.val : Int) < 255 → (bits BinOp.and IntKind.u8 (y.val : Int) 32 != 0) = true := by decide +kernel
  have e := h ⟨x.toNat, by omega⟩
  simp only [Int.toNat_of_nonneg (show 0 ≤ x by omega)] at e
  exact e h0 h1
theorem tb8_3 (x : Int) (h0 : 254 ≤ x) (h1 : x < 255) : (bits BinOp.and IntKind.u8 x 16 != 0) = true := by
  have h : ∀ y : Fin 256, 254 ≤ (y.val : Int) → (y.val : Int) < 255 → (bits BinOp.and IntKind.u8 (y.val : Int) 16 != 0) = true := by decide +kernel
  have e := h ⟨x.toNat, by omega⟩
  simp only [Int.toNat_of_nonneg (show 0 ≤ x by omega)] at e
  exact e h0 h1
theorem tb8_4 (x : Int) (h0 : 254 ≤ x) (h1 : x < 255) : (bits BinOp.and IntKind.u8 x 8 != 0) = true := by
  have h : ∀ y : Fin 256, 254 ≤ (y.val : Int) → (y.val : Int) < 255 → (bits BinOp.and IntKind.u8 (y.val : Int) 8 != 0) = true := by decide +kernel
  have e := h ⟨x.toNat, by omega⟩
  simp only [Int.toNat_of_nonneg (show 0 ≤ x by omega)] at e
  exact e h0 h1
theorem tb8_5 (x : Int) (h0 : 254 ≤ x) (h1 : x < 255) : (bits BinOp.and IntKind.u8 x 4 != 0) = true := by
  have h : ∀ y : Fin 256, 254 ≤ (y.val : Int) → (y.val : Int) < 255 → (bits BinOp.and IntKind.u8 (y.val : Int) 4 != 0) = true := by decide +kernel
  have e := h ⟨x.toNat, by omega⟩
  simp only [Int.toNat_of_nonneg (show 0 ≤ x by omega)] at e
  exact e h0 h1
theorem tb8_6 (x : Int) (h0 : 254 ≤ x) (h1 : x < 255) : (bits BinOp.and IntKind.u8 x 2 != 0) = true := by
  have h : ∀ y : Fin 256, 254 ≤ (y.val : Int) → (y.val : Int) < 255 → (bits BinOp.and IntKind.u8 (y.val : Int) 2 != 0) = true := by decide +kernel
  have e := h ⟨x.toNat, by omega⟩
  simp only [Int.toNat_of_nonneg (show 0 ≤ x by omega)] at e
  exact e h0 h1
theorem tb8_7 (x : Int) (h0 : 254 ≤ x) (h1 : x < 255) : (bits BinOp.and IntKind.u8 x 1 != 0) = false := by
  have h : ∀ y : Fin 256, 254 ≤ (y.val : Int) → (y.val : Int) < 255 → (bits BinOp.and IntKind.u8 (y.val : Int) 1 != 0) = false := by decide +kernel
  have e := h ⟨x.toNat, by omega⟩
  simp only [Int.toNat_of_nonneg (show 0 ≤ x by omega)] at e
  exact e h0 h1

set_option maxRecDepth 100000 in
set_option maxHeartbeats 4000000 in
theorem numX1 {w : World} {xb b off cap : Nat} {l : List Int} (most : Int)
    (hcap : l.length ≤ cap) (hc0 : w.cell? ⟨xb, 0, none⟩ = some (.slice (some ⟨b, off, none⟩) l.length cap)) (hc1 : w.cell? ⟨xb, 1, none⟩ = some (.int .i64 0)) (hf0 : w.frozen? ⟨xb, 0, none⟩ = false) (hf1 : w.frozen? ⟨xb, 1, none⟩ = false)
    (hl : Byt l) (hb : l.length ≤ 140737488355328) (hcell : ∀ i, i < l.length → w.cell? ⟨b, off + i, none⟩ = some (.int .u8 (l.getD i 0)))
    (hr : 0 ≤ l.getD 0 0 ∧ l.getD 0 0 < 128) (hlen : 1 ≤ l.length) :
    Calls Try.prog 69 #[.pointer (some ⟨xb, 0, none⟩), .int .i64 most] w fun e w' => NumXPost w xb b off cap l 1 most e w' := by
  have hz : ((l.length : Int) == 0) = false := by rw [beq_eq_false_iff_ne]; omega
  have hlt : decide ((l.length : Int) < 1) = false := by rw [decide_eq_false_iff_not]; omega
  obtain ⟨hr0, hr1⟩ := hr
  have hcx := hcell 0 (by omega)
  rw [Nat.add_zero] at hcx
  have hpos : (0 : Int) < (l.length : Int) := by omega
  have hlen' : (1 : Int) ≤ (l.length : Int) := by omega
  have hcap' : (l.length : Int) ≤ (cap : Int) := by omega
  clear hcell hl
  generalize hx : l.getD 0 0 = x at hcx hr0 hr1
  have HX : Hid (l.getD 0 0 = x) := hx
  clear hx 
  have hx0 : 0 ≤ x := by omega
  have hx1 : x ≤ 255 := by omega
  have hq0 : (bits BinOp.and IntKind.u8 x 128 != 0) = false := tb1_0 x (by omega) (by omega)
  go_enter Try.func69, Try.ntmps69
  go_wp2
  refine wp_loop_rounds 1 ?_
  rw [rounds_succ]
  go_wp2_with fail
  go_quiet (fail)
  go_wp2_with fail
  go_quiet (fail)
  go_wp2_with fail
  have ha0 : 0 ≤ x % 128 := by omega
  have hb0 : x % 128 < 128 := by omega
  have hE0 : Num.head 1 x = x % 128 := rfl
  generalize x % 128 = a0 at ha0 hb0 hE0 ⊢
  have HE0 := hd hE0
  clear hE0
  refine wp_loop_rounds 1 ?_
  rw [rounds_succ]
  go_wp2_with fail
  refine (rsize_any _ _ (by omega) (by omega)).mono ?_
  rintro e w2 ⟨rfl, rfl⟩
  have HV : Hid (Num.V l 1 0 = a0) := by
    have e0 := HX.out
    have f0 := HE0.out
    show _ = _
    simp only [Num.V, e0, f0]
  by_cases hsz : Num.sz a0 = 1
  · have hq : ((Num.sz a0 : Int) != 1) = false := by rw [bne_eq_false_iff_eq, hsz]; rfl
    have HSZ := hd hsz
    clear hsz
    by_cases hm : most < a0
    · go_wp2
      go_ret
      exact ⟨_, Or.inl ⟨Or.inr (by show most < Num.V l 1 0; rw [HV.out]; exact hm), rfl, rfl⟩⟩
    · have hm' : a0 ≤ most := by omega
      go_wp2
      all_goals go_ret
      · exact ⟨_, Or.inr ⟨⟨by show Num.sz (Num.V l 1 0) = 1; rw [HV.out]; exact HSZ.out, by show Num.V l 1 0 ≤ most; rw [HV.out]; exact hm'⟩, by show _ = Ending.returned (.int .i64 (Num.V l 1 0)); rw [HV.out]; rfl, _, fun h => by omega, Or.inl rfl, rfl⟩⟩
      · exact ⟨_, Or.inr ⟨⟨by show Num.sz (Num.V l 1 0) = 1; rw [HV.out]; exact HSZ.out, by show Num.V l 1 0 ≤ most; rw [HV.out]; exact hm'⟩, by show _ = Ending.returned (.int .i64 (Num.V l 1 0)); rw [HV.out]; rfl, _, fun h => rfl, Or.inr rfl, rfl⟩⟩
  · have hq : ((Num.sz a0 : Int) != 1) = true := by rw [bne_iff_ne]; omega
    have HSZ := hd hsz
    clear hsz
    go_wp2
    go_ret
    exact ⟨_, Or.inl ⟨Or.inl (by show Num.sz (Num.V l 1 0) ≠ 1; rw [HV.out]; exact HSZ.out), rfl, rfl⟩⟩

set_option maxRecDepth 100000 in
set_option maxHeartbeats 4000000 in
theorem numX2 {w : World} {xb b off cap : Nat} {l : List Int} (most : Int)
    (hcap : l.length ≤ cap) (hc0 : w.cell? ⟨xb, 0, none⟩ = some (.slice (some ⟨b, off, none⟩) l.length cap)) (hc1 : w.cell? ⟨xb, 1, none⟩ = some (.int .i64 0)) (hf0 : w.frozen? ⟨xb, 0, none⟩ = false) (hf1 : w.frozen? ⟨xb, 1, none⟩ = false)
    (hl : Byt l) (hb : l.length ≤ 140737488355328) (hcell : ∀ i, i < l.length → w.cell? ⟨b, off + i, none⟩ = some (.int .u8 (l.getD i 0)))
    (hr : 128 ≤ l.getD 0 0 ∧ l.getD 0 0 < 192) (hlen : 2 ≤ l.length) :
    Calls Try.prog 69 #[.pointer (some ⟨xb, 0, none⟩), .int .i64 most] w fun e w' => NumXPost w xb b off cap l 2 most e w' := by
  have hz : ((l.length : Int) == 0) = false := by rw [beq_eq_false_iff_ne]; omega
  have hlt : decide ((l.length : Int) < 2) = false := by rw [decide_eq_false_iff_not]; omega
  obtain ⟨hy10, hy11⟩ := hl.get 1
  have hcy1 := hcell 1 (by omega)
  obtain ⟨hr0, hr1⟩ := hr
  have hcx := hcell 0 (by omega)
  rw [Nat.add_zero] at hcx
  have hpos : (0 : Int) < (l.length : Int) := by omega
  have hlen' : (2 : Int) ≤ (l.length : Int) := by omega
  have hcap' : (l.length : Int) ≤ (cap : Int) := by omega
  clear hcell hl
  generalize hx : l.getD 0 0 = x at hcx hr0 hr1
  generalize hx1' : l.getD 1 0 = y1 at *
  have HX : Hid (l.getD 0 0 = x ∧ l.getD 1 0 = y1) := ⟨hx, hx1'⟩
  clear hx hx1'
  have hx0 : 0 ≤ x := by omega
  have hx1 : x ≤ 255 := by omega
  have hq0 : (bits BinOp.and IntKind.u8 x 128 != 0) = true := tb2_0 x (by omega) (by omega)
  have hq1 : (bits BinOp.and IntKind.u8 x 64 != 0) = false := tb2_1 x (by omega) (by omega)
  go_enter Try.func69, Try.ntmps69
  go_wp2
  refine wp_loop_rounds 2 ?_
  rw [rounds_succ]
  go_wp2_with fail
  go_quiet (fail)
  go_wp2_with fail
  rw [rounds_succ]
  go_wp2_with fail
  go_quiet (fail)
  go_wp2_with fail
  go_quiet (fail)
  go_wp2_with fail
  have ha0 : 0 ≤ x % 64 := by omega
  have hb0 : x % 64 < 64 := by omega
  have hE0 : Num.head 2 x = x % 64 := rfl
  generalize x % 64 = a0 at ha0 hb0 hE0 ⊢
  have HE0 := hd hE0
  clear hE0
  refine wp_loop_rounds 2 ?_
  rw [rounds_succ]
  go_wp2_with fail
  have ha1 : 0 ≤ a0 * 256 + y1 := by omega
  have hb1 : a0 * 256 + y1 < 16384 := by omega
  generalize hA1 : a0 * 256 + y1 = a1 at ha1 hb1 ⊢
  have HA1 : Hid (a0 * 256 + y1 = a1) := hA1
  clear hA1
  rw [rounds_succ]
  go_wp2_with fail
  refine (rsize_any _ _ (by omega) (by omega)).mono ?_
  rintro e w2 ⟨rfl, rfl⟩
  have HV : Hid (Num.V l 2 1 = a1) := by
    obtain ⟨e0, e1⟩ := HX.out
    have f0 := HE0.out
    have f1 := HA1.out
    show _ = _
    simp only [Num.V, Nat.zero_add, e0, e1, f0]
    omega
  by_cases hsz : Num.sz a1 = 2
  · have hq : ((Num.sz a1 : Int) != 2) = false := by rw [bne_eq_false_iff_eq, hsz]; rfl
    have HSZ := hd hsz
    clear hsz
    by_cases hm : most < a1
    · go_wp2
      go_ret
      exact ⟨_, Or.inl ⟨Or.inr (by show most < Num.V l 2 1; rw [HV.out]; exact hm), rfl, rfl⟩⟩
    · have hm' : a1 ≤ most := by omega
      go_wp2
      all_goals go_ret
      · exact ⟨_, Or.inr ⟨⟨by show Num.sz (Num.V l 2 1) = 2; rw [HV.out]; exact HSZ.out, by show Num.V l 2 1 ≤ most; rw [HV.out]; exact hm'⟩, by show _ = Ending.returned (.int .i64 (Num.V l 2 1)); rw [HV.out]; rfl, _, fun h => by omega, Or.inl rfl, rfl⟩⟩
      · exact ⟨_, Or.inr ⟨⟨by show Num.sz (Num.V l 2 1) = 2; rw [HV.out]; exact HSZ.out, by show Num.V l 2 1 ≤ most; rw [HV.out]; exact hm'⟩, by show _ = Ending.returned (.int .i64 (Num.V l 2 1)); rw [HV.out]; rfl, _, fun h => rfl, Or.inr rfl, rfl⟩⟩
  · have hq : ((Num.sz a1 : Int) != 2) = true := by rw [bne_iff_ne]; omega
    have HSZ := hd hsz
    clear hsz
    go_wp2
    go_ret
    exact ⟨_, Or.inl ⟨Or.inl (by show Num.sz (Num.V l 2 1) ≠ 2; rw [HV.out]; exact HSZ.out), rfl, rfl⟩⟩

set_option maxRecDepth 100000 in
set_option maxHeartbeats 4000000 in
theorem numX3 {w : World} {xb b off cap : Nat} {l : List Int} (most : Int)
    (hcap : l.length ≤ cap) (hc0 : w.cell? ⟨xb, 0, none⟩ = some (.slice (some ⟨b, off, none⟩) l.length cap)) (hc1 : w.cell? ⟨xb, 1, none⟩ = some (.int .i64 0)) (hf0 : w.frozen? ⟨xb, 0, none⟩ = false) (hf1 : w.frozen? ⟨xb, 1, none⟩ = false)
    (hl : Byt l) (hb : l.length ≤ 140737488355328) (hcell : ∀ i, i < l.length → w.cell? ⟨b, off + i, none⟩ = some (.int .u8 (l.getD i 0)))
    (hr : 192 ≤ l.getD 0 0 ∧ l.getD 0 0 < 224) (hlen : 3 ≤ l.length) :
    Calls Try.prog 69 #[.pointer (some ⟨xb, 0, none⟩), .int .i64 most] w fun e w' => NumXPost w xb b off cap l 3 most e w' := by
  have hz : ((l.length : Int) == 0) = false := by rw [beq_eq_false_iff_ne]; omega
  have hlt : decide ((l.length : Int) < 3) = false := by rw [decide_eq_false_iff_not]; omega
  obtain ⟨hy10, hy11⟩ := hl.get 1
  have hcy1 := hcell 1 (by omega)
  obtain ⟨hy20, hy21⟩ := hl.get 2
  have hcy2 := hcell 2 (by omega)
  obtain ⟨hr0, hr1⟩ := hr
  have hcx := hcell 0 (by omega)
  rw [Nat.add_zero] at hcx
  have hpos : (0 : Int) < (l.length : Int) := by omega
  have hlen' : (3 : Int) ≤ (l.length : Int) := by omega
  have hcap' : (l.length : Int) ≤ (cap : Int) := by omega
  clear hcell hl
  generalize hx : l.getD 0 0 = x at hcx hr0 hr1
  generalize hx1' : l.getD 1 0 = y1 at *
  generalize hx2' : l.getD 2 0 = y2 at *
  have HX : Hid (l.getD 0 0 = x ∧ l.getD 1 0 = y1 ∧ l.getD 2 0 = y2) := ⟨hx, hx1', hx2'⟩
  clear hx hx1' hx2'
  have hx0 : 0 ≤ x := by omega
  have hx1 : x ≤ 255 := by omega
  have hq0 : (bits BinOp.and IntKind.u8 x 128 != 0) = true := tb3_0 x (by omega) (by omega)
  have hq1 : (bits BinOp.and IntKind.u8 x 64 != 0) = true := tb3_1 x (by omega) (by omega)
  have hq2 : (bits BinOp.and IntKind.u8 x 32 != 0) = false := tb3_2 x (by omega) (by omega)
  go_enter Try.func69, Try.ntmps69
  go_wp2
  refine wp_loop_rounds 3 ?_
  rw [rounds_succ]
  go_wp2_with fail
  go_quiet (fail)
  go_wp2_with fail
  rw [rounds_succ]
  go_wp2_with fail
  go_quiet (fail)
  go_wp2_with fail
  rw [rounds_succ]
  go_wp2_with fail
  go_quiet (fail)
  go_wp2_with fail
  go_quiet (fail)
  go_wp2_with fail
  have ha0 : 0 ≤ x % 32 := by omega
  have hb0 : x % 32 < 32 := by omega
  have hE0 : Num.head 3 x = x % 32 := rfl
  generalize x % 32 = a0 at ha0 hb0 hE0 ⊢
  have HE0 := hd hE0
  clear hE0
  refine wp_loop_rounds 3 ?_
  rw [rounds_succ]
  go_wp2_with fail
  have ha1 : 0 ≤ a0 * 256 + y1 := by omega
  have hb1 : a0 * 256 + y1 < 8192 := by omega
  generalize hA1 : a0 * 256 + y1 = a1 at ha1 hb1 ⊢
  have HA1 : Hid (a0 * 256 + y1 = a1) := hA1
  clear hA1
  rw [rounds_succ]
  go_wp2_with fail
  have ha2 : 0 ≤ a1 * 256 + y2 := by omega
  have hb2 : a1 * 256 + y2 < 2097152 := by omega
  generalize hA2 : a1 * 256 + y2 = a2 at ha2 hb2 ⊢
  have HA2 : Hid (a1 * 256 + y2 = a2) := hA2
  clear hA2
  rw [rounds_succ]
  go_wp2_with fail
  refine (rsize_any _ _ (by omega) (by omega)).mono ?_
  rintro e w2 ⟨rfl, rfl⟩
  have HV : Hid (Num.V l 3 2 = a2) := by
    obtain ⟨e0, e1, e2⟩ := HX.out
    have f0 := HE0.out
    have f1 := HA1.out
    have f2 := HA2.out
    show _ = _
    simp only [Num.V, Nat.reduceAdd, Nat.zero_add, e0, e1, e2, f0]
    omega
  by_cases hsz : Num.sz a2 = 3
  · have hq : ((Num.sz a2 : Int) != 3) = false := by rw [bne_eq_false_iff_eq, hsz]; rfl
    have HSZ := hd hsz
    clear hsz
    by_cases hm : most < a2
    · go_wp2
      go_ret
      exact ⟨_, Or.inl ⟨Or.inr (by show most < Num.V l 3 2; rw [HV.out]; exact hm), rfl, rfl⟩⟩
    · have hm' : a2 ≤ most := by omega
      go_wp2
      all_goals go_ret
      · exact ⟨_, Or.inr ⟨⟨by show Num.sz (Num.V l 3 2) = 3; rw [HV.out]; exact HSZ.out, by show Num.V l 3 2 ≤ most; rw [HV.out]; exact hm'⟩, by show _ = Ending.returned (.int .i64 (Num.V l 3 2)); rw [HV.out]; rfl, _, fun h => by omega, Or.inl rfl, rfl⟩⟩
      · exact ⟨_, Or.inr ⟨⟨by show Num.sz (Num.V l 3 2) = 3; rw [HV.out]; exact HSZ.out, by show Num.V l 3 2 ≤ most; rw [HV.out]; exact hm'⟩, by show _ = Ending.returned (.int .i64 (Num.V l 3 2)); rw [HV.out]; rfl, _, fun h => rfl, Or.inr rfl, rfl⟩⟩
  · have hq : ((Num.sz a2 : Int) != 3) = true := by rw [bne_iff_ne]; omega
    have HSZ := hd hsz
    clear hsz
    go_wp2
    go_ret
    exact ⟨_, Or.inl ⟨Or.inl (by show Num.sz (Num.V l 3 2) ≠ 3; rw [HV.out]; exact HSZ.out), rfl, rfl⟩⟩

set_option maxRecDepth 100000 in
set_option maxHeartbeats 4000000 in
theorem numX4 {w : World} {xb b off cap : Nat} {l : List Int} (most : Int)
    (hcap : l.length ≤ cap) (hc0 : w.cell? ⟨xb, 0, none⟩ = some (.slice (some ⟨b, off, none⟩) l.length cap)) (hc1 : w.cell? ⟨xb, 1, none⟩ = some (.int .i64 0)) (hf0 : w.frozen? ⟨xb, 0, none⟩ = false) (hf1 : w.frozen? ⟨xb, 1, none⟩ = false)
    (hl : Byt l) (hb : l.length ≤ 140737488355328) (hcell : ∀ i, i < l.length → w.cell? ⟨b, off + i, none⟩ = some (.int .u8 (l.getD i 0)))
    (hr : 224 ≤ l.getD 0 0 ∧ l.getD 0 0 < 240) (hlen : 4 ≤ l.length) :
    Calls Try.prog 69 #[.pointer (some ⟨xb, 0, none⟩), .int .i64 most] w fun e w' => NumXPost w xb b off cap l 4 most e w' := by
  have hz : ((l.length : Int) == 0) = false := by rw [beq_eq_false_iff_ne]; omega
  have hlt : decide ((l.length : Int) < 4) = false := by rw [decide_eq_false_iff_not]; omega
  obtain ⟨hy10, hy11⟩ := hl.get 1
  have hcy1 := hcell 1 (by omega)
  obtain ⟨hy20, hy21⟩ := hl.get 2
  have hcy2 := hcell 2 (by omega)
  obtain ⟨hy30, hy31⟩ := hl.get 3
  have hcy3 := hcell 3 (by omega)
  obtain ⟨hr0, hr1⟩ := hr
  have hcx := hcell 0 (by omega)
  rw [Nat.add_zero] at hcx
  have hpos : (0 : Int) < (l.length : Int) := by omega
  have hlen' : (4 : Int) ≤ (l.length : Int) := by omega
  have hcap' : (l.length : Int) ≤ (cap : Int) := by omega
  clear hcell hl
  generalize hx : l.getD 0 0 = x at hcx hr0 hr1
  generalize hx1' : l.getD 1 0 = y1 at *
  generalize hx2' : l.getD 2 0 = y2 at *
  generalize hx3' : l.getD 3 0 = y3 at *
  have HX : Hid (l.getD 0 0 = x ∧ l.getD 1 0 = y1 ∧ l.getD 2 0 = y2 ∧ l.getD 3 0 = y3) := ⟨hx, hx1', hx2', hx3'⟩
  clear hx hx1' hx2' hx3'
  have hx0 : 0 ≤ x := by omega
  have hx1 : x ≤ 255 := by omega
  have hq0 : (bits BinOp.and IntKind.u8 x 128 != 0) = true := tb4_0 x (by omega) (by omega)
  have hq1 : (bits BinOp.and IntKind.u8 x 64 != 0) = true := tb4_1 x (by omega) (by omega)
  have hq2 : (bits BinOp.and IntKind.u8 x 32 != 0) = true := tb4_2 x (by omega) (by omega)
  have hq3 : (bits BinOp.and IntKind.u8 x 16 != 0) = false := tb4_3 x (by omega) (by omega)
  go_enter Try.func69, Try.ntmps69
  go_wp2
  refine wp_loop_rounds 4 ?_
  rw [rounds_succ]
  go_wp2_with fail
  go_quiet (fail)
  go_wp2_with fail
  rw [rounds_succ]
  go_wp2_with fail
  go_quiet (fail)
  go_wp2_with fail
  rw [rounds_succ]
  go_wp2_with fail
  go_quiet (fail)
  go_wp2_with fail
  rw [rounds_succ]
  go_wp2_with fail
  go_quiet (fail)
  go_wp2_with fail
  go_quiet (fail)
  go_wp2_with fail
  have ha0 : 0 ≤ x % 16 := by omega
  have hb0 : x % 16 < 16 := by omega
  have hE0 : Num.head 4 x = x % 16 := rfl
  generalize x % 16 = a0 at ha0 hb0 hE0 ⊢
  have HE0 := hd hE0
  clear hE0
  refine wp_loop_rounds 4 ?_
  rw [rounds_succ]
  go_wp2_with fail
  have ha1 : 0 ≤ a0 * 256 + y1 := by omega
  have hb1 : a0 * 256 + y1 < 4096 := by omega
  generalize hA1 : a0 * 256 + y1 = a1 at ha1 hb1 ⊢
  have HA1 : Hid (a0 * 256 + y1 = a1) := hA1
  clear hA1
  rw [rounds_succ]
  go_wp2_with fail
  have ha2 : 0 ≤ a1 * 256 + y2 := by omega
  have hb2 : a1 * 256 + y2 < 1048576 := by omega
  generalize hA2 : a1 * 256 + y2 = a2 at ha2 hb2 ⊢
  have HA2 : Hid (a1 * 256 + y2 = a2) := hA2
  clear hA2
  rw [rounds_succ]
  go_wp2_with fail
  have ha3 : 0 ≤ a2 * 256 + y3 := by omega
  have hb3 : a2 * 256 + y3 < 268435456 := by omega
  generalize hA3 : a2 * 256 + y3 = a3 at ha3 hb3 ⊢
  have HA3 : Hid (a2 * 256 + y3 = a3) := hA3
  clear hA3
  rw [rounds_succ]
  go_wp2_with fail
  refine (rsize_any _ _ (by omega) (by omega)).mono ?_
  rintro e w2 ⟨rfl, rfl⟩
  have HV : Hid (Num.V l 4 3 = a3) := by
    obtain ⟨e0, e1, e2, e3⟩ := HX.out
    have f0 := HE0.out
    have f1 := HA1.out
    have f2 := HA2.out
    have f3 := HA3.out
    show _ = _
    simp only [Num.V, Nat.reduceAdd, Nat.zero_add, e0, e1, e2, e3, f0]
    omega
  by_cases hsz : Num.sz a3 = 4
  · have hq : ((Num.sz a3 : Int) != 4) = false := by rw [bne_eq_false_iff_eq, hsz]; rfl
    have HSZ := hd hsz
    clear hsz
    by_cases hm : most < a3
    · go_wp2
      go_ret
      exact ⟨_, Or.inl ⟨Or.inr (by show most < Num.V l 4 3; rw [HV.out]; exact hm), rfl, rfl⟩⟩
    · have hm' : a3 ≤ most := by omega
      go_wp2
      all_goals go_ret
      · exact ⟨_, Or.inr ⟨⟨by show Num.sz (Num.V l 4 3) = 4; rw [HV.out]; exact HSZ.out, by show Num.V l 4 3 ≤ most; rw [HV.out]; exact hm'⟩, by show _ = Ending.returned (.int .i64 (Num.V l 4 3)); rw [HV.out]; rfl, _, fun h => by omega, Or.inl rfl, rfl⟩⟩
      · exact ⟨_, Or.inr ⟨⟨by show Num.sz (Num.V l 4 3) = 4; rw [HV.out]; exact HSZ.out, by show Num.V l 4 3 ≤ most; rw [HV.out]; exact hm'⟩, by show _ = Ending.returned (.int .i64 (Num.V l 4 3)); rw [HV.out]; rfl, _, fun h => rfl, Or.inr rfl, rfl⟩⟩
  · have hq : ((Num.sz a3 : Int) != 4) = true := by rw [bne_iff_ne]; omega
    have HSZ := hd hsz
    clear hsz
    go_wp2
    go_ret
    exact ⟨_, Or.inl ⟨Or.inl (by show Num.sz (Num.V l 4 3) ≠ 4; rw [HV.out]; exact HSZ.out), rfl, rfl⟩⟩

set_option maxRecDepth 100000 in
set_option maxHeartbeats 4000000 in
theorem numX5 {w : World} {xb b off cap : Nat} {l : List Int} (most : Int)
    (hcap : l.length ≤ cap) (hc0 : w.cell? ⟨xb, 0, none⟩ = some (.slice (some ⟨b, off, none⟩) l.length cap)) (hc1 : w.cell? ⟨xb, 1, none⟩ = some (.int .i64 0)) (hf0 : w.frozen? ⟨xb, 0, none⟩ = false) (hf1 : w.frozen? ⟨xb, 1, none⟩ = false)
    (hl : Byt l) (hb : l.length ≤ 140737488355328) (hcell : ∀ i, i < l.length → w.cell? ⟨b, off + i, none⟩ = some (.int .u8 (l.getD i 0)))
    (hr : 240 ≤ l.getD 0 0 ∧ l.getD 0 0 < 248) (hlen : 5 ≤ l.length) :
    Calls Try.prog 69 #[.pointer (some ⟨xb, 0, none⟩), .int .i64 most] w fun e w' => NumXPost w xb b off cap l 5 most e w' := by
  have hz : ((l.length : Int) == 0) = false := by rw [beq_eq_false_iff_ne]; omega
  have hlt : decide ((l.length : Int) < 5) = false := by rw [decide_eq_false_iff_not]; omega
  obtain ⟨hy10, hy11⟩ := hl.get 1
  have hcy1 := hcell 1 (by omega)
  obtain ⟨hy20, hy21⟩ := hl.get 2
  have hcy2 := hcell 2 (by omega)
  obtain ⟨hy30, hy31⟩ := hl.get 3
  have hcy3 := hcell 3 (by omega)
  obtain ⟨hy40, hy41⟩ := hl.get 4
  have hcy4 := hcell 4 (by omega)
  obtain ⟨hr0, hr1⟩ := hr
  have hcx := hcell 0 (by omega)
  rw [Nat.add_zero] at hcx
  have hpos : (0 : Int) < (l.length : Int) := by omega
  have hlen' : (5 : Int) ≤ (l.length : Int) := by omega
  have hcap' : (l.length : Int) ≤ (cap : Int) := by omega
  clear hcell hl
  generalize hx : l.getD 0 0 = x at hcx hr0 hr1
  generalize hx1' : l.getD 1 0 = y1 at *
  generalize hx2' : l.getD 2 0 = y2 at *
  generalize hx3' : l.getD 3 0 = y3 at *
  generalize hx4' : l.getD 4 0 = y4 at *
  have HX : Hid (l.getD 0 0 = x ∧ l.getD 1 0 = y1 ∧ l.getD 2 0 = y2 ∧ l.getD 3 0 = y3 ∧ l.getD 4 0 = y4) := ⟨hx, hx1', hx2', hx3', hx4'⟩
  clear hx hx1' hx2' hx3' hx4'
  have hx0 : 0 ≤ x := by omega
  have hx1 : x ≤ 255 := by omega
  have hq0 : (bits BinOp.and IntKind.u8 x 128 != 0) = true := tb5_0 x (by omega) (by omega)
  have hq1 : (bits BinOp.and IntKind.u8 x 64 != 0) = true := tb5_1 x (by omega) (by omega)
  have hq2 : (bits BinOp.and IntKind.u8 x 32 != 0) = true := tb5_2 x (by omega) (by omega)
  have hq3 : (bits BinOp.and IntKind.u8 x 16 != 0) = true := tb5_3 x (by omega) (by omega)
  have hq4 : (bits BinOp.and IntKind.u8 x 8 != 0) = false := tb5_4 x (by omega) (by omega)
  go_enter Try.func69, Try.ntmps69
  go_wp2
  refine wp_loop_rounds 5 ?_
  rw [rounds_succ]
  go_wp2_with fail
  go_quiet (fail)
  go_wp2_with fail
  rw [rounds_succ]
  go_wp2_with fail
  go_quiet (fail)
  go_wp2_with fail
  rw [rounds_succ]
  go_wp2_with fail
  go_quiet (fail)
  go_wp2_with fail
  rw [rounds_succ]
  go_wp2_with fail
  go_quiet (fail)
  go_wp2_with fail
  rw [rounds_succ]
  go_wp2_with fail
  go_quiet (fail)
  go_wp2_with fail
  go_quiet (fail)
  go_wp2_with fail
  have ha0 : 0 ≤ x % 8 := by omega
  have hb0 : x % 8 < 8 := by omega
  have hE0 : Num.head 5 x = x % 8 := rfl
  generalize x % 8 = a0 at ha0 hb0 hE0 ⊢
  have HE0 := hd hE0
  clear hE0
  refine wp_loop_rounds 5 ?_
  rw [rounds_succ]
  go_wp2_with fail
  have ha1 : 0 ≤ a0 * 256 + y1 := by omega
  have hb1 : a0 * 256 + y1 < 2048 := by omega
  generalize hA1 : a0 * 256 + y1 = a1 at ha1 hb1 ⊢
  have HA1 : Hid (a0 * 256 + y1 = a1) := hA1
  clear hA1
  rw [rounds_succ]
  go_wp2_with fail
  have ha2 : 0 ≤ a1 * 256 + y2 := by omega
  have hb2 : a1 * 256 + y2 < 524288 := by omega
  generalize hA2 : a1 * 256 + y2 = a2 at ha2 hb2 ⊢
  have HA2 : Hid (a1 * 256 + y2 = a2) := hA2
  clear hA2
  rw [rounds_succ]
  go_wp2_with fail
  have ha3 : 0 ≤ a2 * 256 + y3 := by omega
  have hb3 : a2 * 256 + y3 < 134217728 := by omega
  generalize hA3 : a2 * 256 + y3 = a3 at ha3 hb3 ⊢
  have HA3 : Hid (a2 * 256 + y3 = a3) := hA3
  clear hA3
  rw [rounds_succ]
  go_wp2_with fail
  have ha4 : 0 ≤ a3 * 256 + y4 := by omega
  have hb4 : a3 * 256 + y4 < 34359738368 := by omega
  generalize hA4 : a3 * 256 + y4 = a4 at ha4 hb4 ⊢
  have HA4 : Hid (a3 * 256 + y4 = a4) := hA4
  clear hA4
  rw [rounds_succ]
  go_wp2_with fail
  refine (rsize_any _ _ (by omega) (by omega)).mono ?_
  rintro e w2 ⟨rfl, rfl⟩
  have HV : Hid (Num.V l 5 4 = a4) := by
    obtain ⟨e0, e1, e2, e3, e4⟩ := HX.out
    have f0 := HE0.out
    have f1 := HA1.out
    have f2 := HA2.out
    have f3 := HA3.out
    have f4 := HA4.out
    show _ = _
    simp only [Num.V, Nat.reduceAdd, Nat.zero_add, e0, e1, e2, e3, e4, f0]
    omega
  by_cases hsz : Num.sz a4 = 5
  · have hq : ((Num.sz a4 : Int) != 5) = false := by rw [bne_eq_false_iff_eq, hsz]; rfl
    have HSZ := hd hsz
    clear hsz
    by_cases hm : most < a4
    · go_wp2
      go_ret
      exact ⟨_, Or.inl ⟨Or.inr (by show most < Num.V l 5 4; rw [HV.out]; exact hm), rfl, rfl⟩⟩
    · have hm' : a4 ≤ most := by omega
      go_wp2
      all_goals go_ret
      · exact ⟨_, Or.inr ⟨⟨by show Num.sz (Num.V l 5 4) = 5; rw [HV.out]; exact HSZ.out, by show Num.V l 5 4 ≤ most; rw [HV.out]; exact hm'⟩, by show _ = Ending.returned (.int .i64 (Num.V l 5 4)); rw [HV.out]; rfl, _, fun h => by omega, Or.inl rfl, rfl⟩⟩
      · exact ⟨_, Or.inr ⟨⟨by show Num.sz (Num.V l 5 4) = 5; rw [HV.out]; exact HSZ.out, by show Num.V l 5 4 ≤ most; rw [HV.out]; exact hm'⟩, by show _ = Ending.returned (.int .i64 (Num.V l 5 4)); rw [HV.out]; rfl, _, fun h => rfl, Or.inr rfl, rfl⟩⟩
  · have hq : ((Num.sz a4 : Int) != 5) = true := by rw [bne_iff_ne]; omega
    have HSZ := hd hsz
    clear hsz
    go_wp2
    go_ret
    exact ⟨_, Or.inl ⟨Or.inl (by show Num.sz (Num.V l 5 4) ≠ 5; rw [HV.out]; exact HSZ.out), rfl, rfl⟩⟩

set_option maxRecDepth 100000 in
set_option maxHeartbeats 4000000 in
theorem numX6 {w : World} {xb b off cap : Nat} {l : List Int} (most : Int)
    (hcap : l.length ≤ cap) (hc0 : w.cell? ⟨xb, 0, none⟩ = some (.slice (some ⟨b, off, none⟩) l.length cap)) (hc1 : w.cell? ⟨xb, 1, none⟩ = some (.int .i64 0)) (hf0 : w.frozen? ⟨xb, 0, none⟩ = false) (hf1 : w.frozen? ⟨xb, 1, none⟩ = false)
    (hl : Byt l) (hb : l.length ≤ 140737488355328) (hcell : ∀ i, i < l.length → w.cell? ⟨b, off + i, none⟩ = some (.int .u8 (l.getD i 0)))
    (hr : 248 ≤ l.getD 0 0 ∧ l.getD 0 0 < 252) (hlen : 6 ≤ l.length) :
    Calls Try.prog 69 #[.pointer (some ⟨xb, 0, none⟩), .int .i64 most] w fun e w' => NumXPost w xb b off cap l 6 most e w' := by
  have hz : ((l.length : Int) == 0) = false := by rw [beq_eq_false_iff_ne]; omega
  have hlt : decide ((l.length : Int) < 6) = false := by rw [decide_eq_false_iff_not]; omega
  obtain ⟨hy10, hy11⟩ := hl.get 1
  have hcy1 := hcell 1 (by omega)
  obtain ⟨hy20, hy21⟩ := hl.get 2
  have hcy2 := hcell 2 (by omega)
  obtain ⟨hy30, hy31⟩ := hl.get 3
  have hcy3 := hcell 3 (by omega)
  obtain ⟨hy40, hy41⟩ := hl.get 4
  have hcy4 := hcell 4 (by omega)
  obtain ⟨hy50, hy51⟩ := hl.get 5
  have hcy5 := hcell 5 (by omega)
  obtain ⟨hr0, hr1⟩ := hr
  have hcx := hcell 0 (by omega)
  rw [Nat.add_zero] at hcx
  have hpos : (0 : Int) < (l.length : Int) := by omega
  have hlen' : (6 : Int) ≤ (l.length : Int) := by omega
  have hcap' : (l.length : Int) ≤ (cap : Int) := by omega
  clear hcell hl
  generalize hx : l.getD 0 0 = x at hcx hr0 hr1
  generalize hx1' : l.getD 1 0 = y1 at *
  generalize hx2' : l.getD 2 0 = y2 at *
  generalize hx3' : l.getD 3 0 = y3 at *
  generalize hx4' : l.getD 4 0 = y4 at *
  generalize hx5' : l.getD 5 0 = y5 at *
  have HX : Hid (l.getD 0 0 = x ∧ l.getD 1 0 = y1 ∧ l.getD 2 0 = y2 ∧ l.getD 3 0 = y3 ∧ l.getD 4 0 = y4 ∧ l.getD 5 0 = y5) := ⟨hx, hx1', hx2', hx3', hx4', hx5'⟩
  clear hx hx1' hx2' hx3' hx4' hx5'
  have hx0 : 0 ≤ x := by omega
  have hx1 : x ≤ 255 := by omega
  have hq0 : (bits BinOp.and IntKind.u8 x 128 != 0) = true := tb6_0 x (by omega) (by omega)
  have hq1 : (bits BinOp.and IntKind.u8 x 64 != 0) = true := tb6_1 x (by omega) (by omega)
  have hq2 : (bits BinOp.and IntKind.u8 x 32 != 0) = true := tb6_2 x (by omega) (by omega)
  have hq3 : (bits BinOp.and IntKind.u8 x 16 != 0) = true := tb6_3 x (by omega) (by omega)
  have hq4 : (bits BinOp.and IntKind.u8 x 8 != 0) = true := tb6_4 x (by omega) (by omega)
  have hq5 : (bits BinOp.and IntKind.u8 x 4 != 0) = false := tb6_5 x (by omega) (by omega)
  go_enter Try.func69, Try.ntmps69
  go_wp2
  refine wp_loop_rounds 6 ?_
  rw [rounds_succ]
  go_wp2_with fail
  go_quiet (fail)
  go_wp2_with fail
  rw [rounds_succ]
  go_wp2_with fail
  go_quiet (fail)
  go_wp2_with fail
  rw [rounds_succ]
  go_wp2_with fail
  go_quiet (fail)
  go_wp2_with fail
  rw [rounds_succ]
  go_wp2_with fail
  go_quiet (fail)
  go_wp2_with fail
  rw [rounds_succ]
  go_wp2_with fail
  go_quiet (fail)
  go_wp2_with fail
  rw [rounds_succ]
  go_wp2_with fail
  go_quiet (fail)
  go_wp2_with fail
  go_quiet (fail)
  go_wp2_with fail
  have ha0 : 0 ≤ x % 4 := by omega
  have hb0 : x % 4 < 4 := by omega
  have hE0 : Num.head 6 x = x % 4 := rfl
  generalize x % 4 = a0 at ha0 hb0 hE0 ⊢
  have HE0 := hd hE0
  clear hE0
  refine wp_loop_rounds 6 ?_
  rw [rounds_succ]
  go_wp2_with fail
  have ha1 : 0 ≤ a0 * 256 + y1 := by omega
  have hb1 : a0 * 256 + y1 < 1024 := by omega
  generalize hA1 : a0 * 256 + y1 = a1 at ha1 hb1 ⊢
  have HA1 : Hid (a0 * 256 + y1 = a1) := hA1
  clear hA1
  rw [rounds_succ]
  go_wp2_with fail
  have ha2 : 0 ≤ a1 * 256 + y2 := by omega
  have hb2 : a1 * 256 + y2 < 262144 := by omega
  generalize hA2 : a1 * 256 + y2 = a2 at ha2 hb2 ⊢
  have HA2 : Hid (a1 * 256 + y2 = a2) := hA2
  clear hA2
  rw [rounds_succ]
  go_wp2_with fail
  have ha3 : 0 ≤ a2 * 256 + y3 := by omega
  have hb3 : a2 * 256 + y3 < 67108864 := by omega
  generalize hA3 : a2 * 256 + y3 = a3 at ha3 hb3 ⊢
  have HA3 : Hid (a2 * 256 + y3 = a3) := hA3
  clear hA3
  rw [rounds_succ]
  go_wp2_with fail
  have ha4 : 0 ≤ a3 * 256 + y4 := by omega
  have hb4 : a3 * 256 + y4 < 17179869184 := by omega
  generalize hA4 : a3 * 256 + y4 = a4 at ha4 hb4 ⊢
  have HA4 : Hid (a3 * 256 + y4 = a4) := hA4
  clear hA4
  rw [rounds_succ]
  go_wp2_with fail
  have ha5 : 0 ≤ a4 * 256 + y5 := by omega
  have hb5 : a4 * 256 + y5 < 4398046511104 := by omega
  generalize hA5 : a4 * 256 + y5 = a5 at ha5 hb5 ⊢
  have HA5 : Hid (a4 * 256 + y5 = a5) := hA5
  clear hA5
  rw [rounds_succ]
  go_wp2_with fail
  refine (rsize_any _ _ (by omega) (by omega)).mono ?_
  rintro e w2 ⟨rfl, rfl⟩
  have HV : Hid (Num.V l 6 5 = a5) := by
    obtain ⟨e0, e1, e2, e3, e4, e5⟩ := HX.out
    have f0 := HE0.out
    have f1 := HA1.out
    have f2 := HA2.out
    have f3 := HA3.out
    have f4 := HA4.out
    have f5 := HA5.out
    show _ = _
    simp only [Num.V, Nat.reduceAdd, Nat.zero_add, e0, e1, e2, e3, e4, e5, f0]
    omega
  by_cases hsz : Num.sz a5 = 6
  · have hq : ((Num.sz a5 : Int) != 6) = false := by rw [bne_eq_false_iff_eq, hsz]; rfl
    have HSZ := hd hsz
    clear hsz
    by_cases hm : most < a5
    · go_wp2
      go_ret
      exact ⟨_, Or.inl ⟨Or.inr (by show most < Num.V l 6 5; rw [HV.out]; exact hm), rfl, rfl⟩⟩
    · have hm' : a5 ≤ most := by omega
      go_wp2
      all_goals go_ret
      · exact ⟨_, Or.inr ⟨⟨by show Num.sz (Num.V l 6 5) = 6; rw [HV.out]; exact HSZ.out, by show Num.V l 6 5 ≤ most; rw [HV.out]; exact hm'⟩, by show _ = Ending.returned (.int .i64 (Num.V l 6 5)); rw [HV.out]; rfl, _, fun h => by omega, Or.inl rfl, rfl⟩⟩
      · exact ⟨_, Or.inr ⟨⟨by show Num.sz (Num.V l 6 5) = 6; rw [HV.out]; exact HSZ.out, by show Num.V l 6 5 ≤ most; rw [HV.out]; exact hm'⟩, by show _ = Ending.returned (.int .i64 (Num.V l 6 5)); rw [HV.out]; rfl, _, fun h => rfl, Or.inr rfl, rfl⟩⟩
  · have hq : ((Num.sz a5 : Int) != 6) = true := by rw [bne_iff_ne]; omega
    have HSZ := hd hsz
    clear hsz
    go_wp2
    go_ret
    exact ⟨_, Or.inl ⟨Or.inl (by show Num.sz (Num.V l 6 5) ≠ 6; rw [HV.out]; exact HSZ.out), rfl, rfl⟩⟩

set_option maxRecDepth 100000 in
set_option maxHeartbeats 4000000 in
theorem numX7 {w : World} {xb b off cap : Nat} {l : List Int} (most : Int)
    (hcap : l.length ≤ cap) (hc0 : w.cell? ⟨xb, 0, none⟩ = some (.slice (some ⟨b, off, none⟩) l.length cap)) (hc1 : w.cell? ⟨xb, 1, none⟩ = some (.int .i64 0)) (hf0 : w.frozen? ⟨xb, 0, none⟩ = false) (hf1 : w.frozen? ⟨xb, 1, none⟩ = false)
    (hl : Byt l) (hb : l.length ≤ 140737488355328) (hcell : ∀ i, i < l.length → w.cell? ⟨b, off + i, none⟩ = some (.int .u8 (l.getD i 0)))
    (hr : 252 ≤ l.getD 0 0 ∧ l.getD 0 0 < 254) (hlen : 7 ≤ l.length) :
    Calls Try.prog 69 #[.pointer (some ⟨xb, 0, none⟩), .int .i64 most] w fun e w' => NumXPost w xb b off cap l 7 most e w' := by
  have hz : ((l.length : Int) == 0) = false := by rw [beq_eq_false_iff_ne]; omega
  have hlt : decide ((l.length : Int) < 7) = false := by rw [decide_eq_false_iff_not]; omega
  obtain ⟨hy10, hy11⟩ := hl.get 1
  have hcy1 := hcell 1 (by omega)
  obtain ⟨hy20, hy21⟩ := hl.get 2
  have hcy2 := hcell 2 (by omega)
  obtain ⟨hy30, hy31⟩ := hl.get 3
  have hcy3 := hcell 3 (by omega)
  obtain ⟨hy40, hy41⟩ := hl.get 4
  have hcy4 := hcell 4 (by omega)
  obtain ⟨hy50, hy51⟩ := hl.get 5
  have hcy5 := hcell 5 (by omega)
  obtain ⟨hy60, hy61⟩ := hl.get 6
  have hcy6 := hcell 6 (by omega)
  obtain ⟨hr0, hr1⟩ := hr
  have hcx := hcell 0 (by omega)
  rw [Nat.add_zero] at hcx
  have hpos : (0 : Int) < (l.length : Int) := by omega
  have hlen' : (7 : Int) ≤ (l.length : Int) := by omega
  have hcap' : (l.length : Int) ≤ (cap : Int) := by omega
  clear hcell hl
  generalize hx : l.getD 0 0 = x at hcx hr0 hr1
  generalize hx1' : l.getD 1 0 = y1 at *
  generalize hx2' : l.getD 2 0 = y2 at *
  generalize hx3' : l.getD 3 0 = y3 at *
  generalize hx4' : l.getD 4 0 = y4 at *
  generalize hx5' : l.getD 5 0 = y5 at *
  generalize hx6' : l.getD 6 0 = y6 at *
  have HX : Hid (l.getD 0 0 = x ∧ l.getD 1 0 = y1 ∧ l.getD 2 0 = y2 ∧ l.getD 3 0 = y3 ∧ l.getD 4 0 = y4 ∧ l.getD 5 0 = y5 ∧ l.getD 6 0 = y6) := ⟨hx, hx1', hx2', hx3', hx4', hx5', hx6'⟩
  clear hx hx1' hx2' hx3' hx4' hx5' hx6'
  have hx0 : 0 ≤ x := by omega
  have hx1 : x ≤ 255 := by omega
  have hq0 : (bits BinOp.and IntKind.u8 x 128 != 0) = true := tb7_0 x (by omega) (by omega)
  have hq1 : (bits BinOp.and IntKind.u8 x 64 != 0) = true := tb7_1 x (by omega) (by omega)
  have hq2 : (bits BinOp.and IntKind.u8 x 32 != 0) = true := tb7_2 x (by omega) (by omega)
  have hq3 : (bits BinOp.and IntKind.u8 x 16 != 0) = true := tb7_3 x (by omega) (by omega)
  have hq4 : (bits BinOp.and IntKind.u8 x 8 != 0) = true := tb7_4 x (by omega) (by omega)
  have hq5 : (bits BinOp.and IntKind.u8 x 4 != 0) = true := tb7_5 x (by omega) (by omega)
  have hq6 : (bits BinOp.and IntKind.u8 x 2 != 0) = false := tb7_6 x (by omega) (by omega)
  go_enter Try.func69, Try.ntmps69
  go_wp2
  refine wp_loop_rounds 7 ?_
  rw [rounds_succ]
  go_wp2_with fail
  go_quiet (fail)
  go_wp2_with fail
  rw [rounds_succ]
  go_wp2_with fail
  go_quiet (fail)
  go_wp2_with fail
  rw [rounds_succ]
  go_wp2_with fail
  go_quiet (fail)
  go_wp2_with fail
  rw [rounds_succ]
  go_wp2_with fail
  go_quiet (fail)
  go_wp2_with fail
  rw [rounds_succ]
  go_wp2_with fail
  go_quiet (fail)
  go_wp2_with fail
  rw [rounds_succ]
  go_wp2_with fail
  go_quiet (fail)
  go_wp2_with fail
  rw [rounds_succ]
  go_wp2_with fail
  go_quiet (fail)
  go_wp2_with fail
  go_quiet (fail)
  go_wp2_with fail
  have ha0 : 0 ≤ x % 2 := by omega
  have hb0 : x % 2 < 2 := by omega
  have hE0 : Num.head 7 x = x % 2 := rfl
  generalize x % 2 = a0 at ha0 hb0 hE0 ⊢
  have HE0 := hd hE0
  clear hE0
  refine wp_loop_rounds 7 ?_
  rw [rounds_succ]
  go_wp2_with fail
  have ha1 : 0 ≤ a0 * 256 + y1 := by omega
  have hb1 : a0 * 256 + y1 < 512 := by omega
  generalize hA1 : a0 * 256 + y1 = a1 at ha1 hb1 ⊢
  have HA1 : Hid (a0 * 256 + y1 = a1) := hA1
  clear hA1
  rw [rounds_succ]
  go_wp2_with fail
  have ha2 : 0 ≤ a1 * 256 + y2 := by omega
  have hb2 : a1 * 256 + y2 < 131072 := by omega
  generalize hA2 : a1 * 256 + y2 = a2 at ha2 hb2 ⊢
  have HA2 : Hid (a1 * 256 + y2 = a2) := hA2
  clear hA2
  rw [rounds_succ]
  go_wp2_with fail
  have ha3 : 0 ≤ a2 * 256 + y3 := by omega
  have hb3 : a2 * 256 + y3 < 33554432 := by omega
  generalize hA3 : a2 * 256 + y3 = a3 at ha3 hb3 ⊢
  have HA3 : Hid (a2 * 256 + y3 = a3) := hA3
  clear hA3
  rw [rounds_succ]
  go_wp2_with fail
  have ha4 : 0 ≤ a3 * 256 + y4 := by omega
  have hb4 : a3 * 256 + y4 < 8589934592 := by omega
  generalize hA4 : a3 * 256 + y4 = a4 at ha4 hb4 ⊢
  have HA4 : Hid (a3 * 256 + y4 = a4) := hA4
  clear hA4
  rw [rounds_succ]
  go_wp2_with fail
  have ha5 : 0 ≤ a4 * 256 + y5 := by omega
  have hb5 : a4 * 256 + y5 < 2199023255552 := by omega
  generalize hA5 : a4 * 256 + y5 = a5 at ha5 hb5 ⊢
  have HA5 : Hid (a4 * 256 + y5 = a5) := hA5
  clear hA5
  rw [rounds_succ]
  go_wp2_with fail
  have ha6 : 0 ≤ a5 * 256 + y6 := by omega
  have hb6 : a5 * 256 + y6 < 562949953421312 := by omega
  generalize hA6 : a5 * 256 + y6 = a6 at ha6 hb6 ⊢
  have HA6 : Hid (a5 * 256 + y6 = a6) := hA6
  clear hA6
  rw [rounds_succ]
  go_wp2_with fail
  refine (rsize_any _ _ (by omega) (by omega)).mono ?_
  rintro e w2 ⟨rfl, rfl⟩
  have HV : Hid (Num.V l 7 6 = a6) := by
    obtain ⟨e0, e1, e2, e3, e4, e5, e6⟩ := HX.out
    have f0 := HE0.out
    have f1 := HA1.out
    have f2 := HA2.out
    have f3 := HA3.out
    have f4 := HA4.out
    have f5 := HA5.out
    have f6 := HA6.out
    show _ = _
    simp only [Num.V, Nat.reduceAdd, Nat.zero_add, e0, e1, e2, e3, e4, e5, e6, f0]
    omega
  by_cases hsz : Num.sz a6 = 7
  · have hq : ((Num.sz a6 : Int) != 7) = false := by rw [bne_eq_false_iff_eq, hsz]; rfl
    have HSZ := hd hsz
    clear hsz
    by_cases hm : most < a6
    · go_wp2
      go_ret
      exact ⟨_, Or.inl ⟨Or.inr (by show most < Num.V l 7 6; rw [HV.out]; exact hm), rfl, rfl⟩⟩
    · have hm' : a6 ≤ most := by omega
      go_wp2
      all_goals go_ret
      · exact ⟨_, Or.inr ⟨⟨by show Num.sz (Num.V l 7 6) = 7; rw [HV.out]; exact HSZ.out, by show Num.V l 7 6 ≤ most; rw [HV.out]; exact hm'⟩, by show _ = Ending.returned (.int .i64 (Num.V l 7 6)); rw [HV.out]; rfl, _, fun h => by omega, Or.inl rfl, rfl⟩⟩
      · exact ⟨_, Or.inr ⟨⟨by show Num.sz (Num.V l 7 6) = 7; rw [HV.out]; exact HSZ.out, by show Num.V l 7 6 ≤ most; rw [HV.out]; exact hm'⟩, by show _ = Ending.returned (.int .i64 (Num.V l 7 6)); rw [HV.out]; rfl, _, fun h => rfl, Or.inr rfl, rfl⟩⟩
  · have hq : ((Num.sz a6 : Int) != 7) = true := by rw [bne_iff_ne]; omega
    have HSZ := hd hsz
    clear hsz
    go_wp2
    go_ret
    exact ⟨_, Or.inl ⟨Or.inl (by show Num.sz (Num.V l 7 6) ≠ 7; rw [HV.out]; exact HSZ.out), rfl, rfl⟩⟩

set_option maxRecDepth 100000 in
set_option maxHeartbeats 4000000 in
theorem numX8 {w : World} {xb b off cap : Nat} {l : List Int} (most : Int)
    (hcap : l.length ≤ cap) (hc0 : w.cell? ⟨xb, 0, none⟩ = some (.slice (some ⟨b, off, none⟩) l.length cap)) (hc1 : w.cell? ⟨xb, 1, none⟩ = some (.int .i64 0)) (hf0 : w.frozen? ⟨xb, 0, none⟩ = false) (hf1 : w.frozen? ⟨xb, 1, none⟩ = false)
    (hl : Byt l) (hb : l.length ≤ 140737488355328) (hcell : ∀ i, i < l.length → w.cell? ⟨b, off + i, none⟩ = some (.int .u8 (l.getD i 0)))
    (hr : 254 ≤ l.getD 0 0 ∧ l.getD 0 0 < 255) (hlen : 8 ≤ l.length) :
    Calls Try.prog 69 #[.pointer (some ⟨xb, 0, none⟩), .int .i64 most] w fun e w' => NumXPost w xb b off cap l 8 most e w' := by
  have hz : ((l.length : Int) == 0) = false := by rw [beq_eq_false_iff_ne]; omega
  have hlt : decide ((l.length : Int) < 8) = false := by rw [decide_eq_false_iff_not]; omega
  obtain ⟨hy10, hy11⟩ := hl.get 1
  have hcy1 := hcell 1 (by omega)
  obtain ⟨hy20, hy21⟩ := hl.get 2
  have hcy2 := hcell 2 (by omega)
  obtain ⟨hy30, hy31⟩ := hl.get 3
  have hcy3 := hcell 3 (by omega)
  obtain ⟨hy40, hy41⟩ := hl.get 4
  have hcy4 := hcell 4 (by omega)
  obtain ⟨hy50, hy51⟩ := hl.get 5
  have hcy5 := hcell 5 (by omega)
  obtain ⟨hy60, hy61⟩ := hl.get 6
  have hcy6 := hcell 6 (by omega)
  obtain ⟨hy70, hy71⟩ := hl.get 7
  have hcy7 := hcell 7 (by omega)
  obtain ⟨hr0, hr1⟩ := hr
  have hcx := hcell 0 (by omega)
  rw [Nat.add_zero] at hcx
  have hpos : (0 : Int) < (l.length : Int) := by omega
  have hlen' : (8 : Int) ≤ (l.length : Int) := by omega
  have hcap' : (l.length : Int) ≤ (cap : Int) := by omega
  clear hcell hl
  generalize hx : l.getD 0 0 = x at hcx hr0 hr1
  generalize hx1' : l.getD 1 0 = y1 at *
  generalize hx2' : l.getD 2 0 = y2 at *
  generalize hx3' : l.getD 3 0 = y3 at *
  generalize hx4' : l.getD 4 0 = y4 at *
  generalize hx5' : l.getD 5 0 = y5 at *
  generalize hx6' : l.getD 6 0 = y6 at *
  generalize hx7' : l.getD 7 0 = y7 at *
  have HX : Hid (l.getD 0 0 = x ∧ l.getD 1 0 = y1 ∧ l.getD 2 0 = y2 ∧ l.getD 3 0 = y3 ∧ l.getD 4 0 = y4 ∧ l.getD 5 0 = y5 ∧ l.getD 6 0 = y6 ∧ l.getD 7 0 = y7) := ⟨hx, hx1', hx2', hx3', hx4', hx5', hx6', hx7'⟩
  clear hx hx1' hx2' hx3' hx4' hx5' hx6' hx7'
  have hx0 : 0 ≤ x := by omega
  have hx1 : x ≤ 255 := by omega
  have hq0 : (bits BinOp.and IntKind.u8 x 128 != 0) = true := tb8_0 x (by omega) (by omega)
  have hq1 : (bits BinOp.and IntKind.u8 x 64 != 0) = true := tb8_1 x (by omega) (by omega)
  have hq2 : (bits BinOp.and IntKind.u8 x 32 != 0) = true := tb8_2 x (by omega) (by omega)
  have hq3 : (bits BinOp.and IntKind.u8 x 16 != 0) = true := tb8_3 x (by omega) (by omega)
  have hq4 : (bits BinOp.and IntKind.u8 x 8 != 0) = true := tb8_4 x (by omega) (by omega)
  have hq5 : (bits BinOp.and IntKind.u8 x 4 != 0) = true := tb8_5 x (by omega) (by omega)
  have hq6 : (bits BinOp.and IntKind.u8 x 2 != 0) = true := tb8_6 x (by omega) (by omega)
  have hq7 : (bits BinOp.and IntKind.u8 x 1 != 0) = false := tb8_7 x (by omega) (by omega)
  go_enter Try.func69, Try.ntmps69
  go_wp2
  refine wp_loop_rounds 8 ?_
  rw [rounds_succ]
  go_wp2_with fail
  go_quiet (fail)
  go_wp2_with fail
  rw [rounds_succ]
  go_wp2_with fail
  go_quiet (fail)
  go_wp2_with fail
  rw [rounds_succ]
  go_wp2_with fail
  go_quiet (fail)
  go_wp2_with fail
  rw [rounds_succ]
  go_wp2_with fail
  go_quiet (fail)
  go_wp2_with fail
  rw [rounds_succ]
  go_wp2_with fail
  go_quiet (fail)
  go_wp2_with fail
  rw [rounds_succ]
  go_wp2_with fail
  go_quiet (fail)
  go_wp2_with fail
  rw [rounds_succ]
  go_wp2_with fail
  go_quiet (fail)
  go_wp2_with fail
  rw [rounds_succ]
  go_wp2_with fail
  go_quiet (fail)
  go_wp2_with fail
  go_quiet (fail)
  go_wp2_with fail
  refine wp_loop_rounds 8 ?_
  rw [rounds_succ]
  go_wp2_with fail
  obtain ⟨a1, hA1⟩ : ∃ a1, a1 = y1 := ⟨_, rfl⟩
  have HA1 : Hid (a1 = y1) := hA1
  have ha1 : 0 ≤ a1 := by omega
  have hb1 : a1 < 256 := by omega
  rw [← hA1]
  clear hA1
  rw [rounds_succ]
  go_wp2_with fail
  have ha2 : 0 ≤ a1 * 256 + y2 := by omega
  have hb2 : a1 * 256 + y2 < 65536 := by omega
  generalize hA2 : a1 * 256 + y2 = a2 at ha2 hb2 ⊢
  have HA2 : Hid (a1 * 256 + y2 = a2) := hA2
  clear hA2
  rw [rounds_succ]
  go_wp2_with fail
  have ha3 : 0 ≤ a2 * 256 + y3 := by omega
  have hb3 : a2 * 256 + y3 < 16777216 := by omega
  generalize hA3 : a2 * 256 + y3 = a3 at ha3 hb3 ⊢
  have HA3 : Hid (a2 * 256 + y3 = a3) := hA3
  clear hA3
  rw [rounds_succ]
  go_wp2_with fail
  have ha4 : 0 ≤ a3 * 256 + y4 := by omega
  have hb4 : a3 * 256 + y4 < 4294967296 := by omega
  generalize hA4 : a3 * 256 + y4 = a4 at ha4 hb4 ⊢
  have HA4 : Hid (a3 * 256 + y4 = a4) := hA4
  clear hA4
  rw [rounds_succ]
  go_wp2_with fail
  have ha5 : 0 ≤ a4 * 256 + y5 := by omega
  have hb5 : a4 * 256 + y5 < 1099511627776 := by omega
  generalize hA5 : a4 * 256 + y5 = a5 at ha5 hb5 ⊢
  have HA5 : Hid (a4 * 256 + y5 = a5) := hA5
  clear hA5
  rw [rounds_succ]
  go_wp2_with fail
  have ha6 : 0 ≤ a5 * 256 + y6 := by omega
  have hb6 : a5 * 256 + y6 < 281474976710656 := by omega
  generalize hA6 : a5 * 256 + y6 = a6 at ha6 hb6 ⊢
  have HA6 : Hid (a5 * 256 + y6 = a6) := hA6
  clear hA6
  rw [rounds_succ]
  go_wp2_with fail
  have ha7 : 0 ≤ a6 * 256 + y7 := by omega
  have hb7 : a6 * 256 + y7 < 72057594037927936 := by omega
  generalize hA7 : a6 * 256 + y7 = a7 at ha7 hb7 ⊢
  have HA7 : Hid (a6 * 256 + y7 = a7) := hA7
  clear hA7
  rw [rounds_succ]
  go_wp2_with fail
  refine (rsize_any _ _ (by omega) (by omega)).mono ?_
  rintro e w2 ⟨rfl, rfl⟩
  have HV : Hid (Num.V l 8 7 = a7) := by
    obtain ⟨e0, e1, e2, e3, e4, e5, e6, e7⟩ := HX.out
    have f1 := HA1.out
    have f2 := HA2.out
    have f3 := HA3.out
    have f4 := HA4.out
    have f5 := HA5.out
    have f6 := HA6.out
    have f7 := HA7.out
    show _ = _
    simp only [Num.V, Nat.reduceAdd, Nat.zero_add, e0, e1, e2, e3, e4, e5, e6, e7, show Num.head 8 x = 0 from rfl]
    omega
  by_cases hsz : Num.sz a7 = 8
  · have hq : ((Num.sz a7 : Int) != 8) = false := by rw [bne_eq_false_iff_eq, hsz]; rfl
    have HSZ := hd hsz
    clear hsz
    by_cases hm : most < a7
    · go_wp2
      go_ret
      exact ⟨_, Or.inl ⟨Or.inr (by show most < Num.V l 8 7; rw [HV.out]; exact hm), rfl, rfl⟩⟩
    · have hm' : a7 ≤ most := by omega
      go_wp2
      all_goals go_ret
      · exact ⟨_, Or.inr ⟨⟨by show Num.sz (Num.V l 8 7) = 8; rw [HV.out]; exact HSZ.out, by show Num.V l 8 7 ≤ most; rw [HV.out]; exact hm'⟩, by show _ = Ending.returned (.int .i64 (Num.V l 8 7)); rw [HV.out]; rfl, _, fun h => by omega, Or.inl rfl, rfl⟩⟩
      · exact ⟨_, Or.inr ⟨⟨by show Num.sz (Num.V l 8 7) = 8; rw [HV.out]; exact HSZ.out, by show Num.V l 8 7 ≤ most; rw [HV.out]; exact hm'⟩, by show _ = Ending.returned (.int .i64 (Num.V l 8 7)); rw [HV.out]; rfl, _, fun h => rfl, Or.inr rfl, rfl⟩⟩
  · have hq : ((Num.sz a7 : Int) != 8) = true := by rw [bne_iff_ne]; omega
    have HSZ := hd hsz
    clear hsz
    go_wp2
    go_ret
    exact ⟨_, Or.inl ⟨Or.inl (by show Num.sz (Num.V l 8 7) ≠ 8; rw [HV.out]; exact HSZ.out), rfl, rfl⟩⟩
end Go.Proofs.Yteifaipbckhoiaa
