/- The document's reader: number, of bytes that are there. -/
import Derived.Test.YteifaipbckhoiabMf
namespace Go.Proofs.Yteifaipbckhoiab
open Go.RowKit
set_option linter.unusedVariables false

/-- How the document's 'number' ends, of k bytes that are there. -/
def NumXPost (w : World) (xb b off cap : Nat) (l : List Int) (k : Nat) (most : Int) (e : Ending) (w' : World) : Prop :=
  ∃ nq, ((Num.sz (Num.V l k (k - 1)) ≠ k ∨ most < Num.V l k (k - 1)) ∧ e = .returned (.int .i64 0) ∧ w' = (w.drewN nq).setCell ⟨xb, 1, none⟩ (.int .i64 4)) ∨
    ((Num.sz (Num.V l k (k - 1)) = k ∧ Num.V l k (k - 1) ≤ most) ∧ e = .returned (.int .i64 (Num.V l k (k - 1))) ∧
      ∃ a, (k < l.length → a = some ⟨b, off + k, none⟩) ∧ (a = some ⟨b, off, none⟩ ∨ a = some ⟨b, off + k, none⟩) ∧ w' = (w.drewN nq).setCell ⟨xb, 0, none⟩ (.slice a (l.length - k) (cap - k)))

theorem tb1_0 (x : Int) (h0 : 0 ≤ x) (h1 : x < 128) : (bits BinOp.and IntKind.u8 x 128 != 0) = false := by
  have h : ∀ y : Fin 256, 0 ≤ (y.val : Int) → (y.val : Int) < 128 → (bits BinOp.and IntKind.u8 (y.val : Int) 128 != 0) = false := by decide +kernel
  have e := h ⟨x.toNat, by omega⟩
  simp only [Int.toNat_of_nonneg (show 0 ≤ x by omega)] at e
  exact e h0 h1
theorem tb2_0 (x : Int) (h0 : 128 ≤ x) (h1 : x < 192) : (bits BinOp.and IntKind.u8 x 128 != 0) = true := by
  have h : ∀ y : Fin 256, 128 ≤ (y.val : Int) → (y.val : Int) < 192 → (bits BinOp.and IntKind.u8 (y.val : Int) 128 != 0) = true := by decide +kernel
  have e := h ⟨x.toNat, by omega⟩
  simp only [Int.toNat_of_nonneg (show 0 ≤ x by omega)] at e
  exact e h0 h1
theorem tb2_1 (x : Int) (h0 : 128 ≤ x) (h1 : x < 192) : (bits BinOp.and IntKind.u8 x 64 != 0) = false := by
  have h : ∀ y : Fin 256, 128 ≤ (y.val : Int) → (y.val : Int) < 192 → (bits BinOp.and IntKind.u8 (y.val : Int) 64 != 0) = false := by decide +kernel
  have e := h ⟨x.toNat, by omega⟩
  simp only [Int.toNat_of_nonneg (show 0 ≤ x by omega)] at e
  exact e h0 h1
theorem tb3_0 (x : Int) (h0 : 192 ≤ x) (h1 : x < 224) : (bits BinOp.and IntKind.u8 x 128 != 0) = true := by
  have h : ∀ y : Fin 256, 192 ≤ (y.val : Int) → (y.val : Int) < 224 → (bits BinOp.and IntKind.u8 (y.val : Int) 128 != 0) = true := by decide +kernel
  have e := h ⟨x.toNat, by omega⟩
  simp only [Int.toNat_of_nonneg (show 0 ≤ x by omega)] at e
  exact e h0 h1
theorem tb3_1 (x : Int) (h0 : 192 ≤ x) (h1 : x < 224) : (bits BinOp.and IntKind.u8 x 64 != 0) = true := by
  have h : ∀ y : Fin 256, 192 ≤ (y.val : Int) → (y.val : Int) < 224 → (bits BinOp.and IntKind.u8 (y.val : Int) 64 != 0) = true := by decide +kernel
  have e := h ⟨x.toNat, by omega⟩
  simp only [Int.toNat_of_nonneg (show 0 ≤ x by omega)] at e
  exact e h0 h1
theorem tb3_2 (x : Int) (h0 : 192 ≤ x) (h1 : x < 224) : (bits BinOp.and IntKind.u8 x 32 != 0) = false := by
  have h : ∀ y : Fin 256, 192 ≤ (y.val : Int) → (y.val : Int) < 224 → (bits BinOp.and IntKind.u8 (y.val : Int) 32 != 0) = false := by decide +kernel
  have e := h ⟨x.toNat, by omega⟩
  simp only [Int.toNat_of_nonneg (show 0 ≤ x by omega)] at e
  exact e h0 h1
theorem tb4_0 (x : Int) (h0 : 224 ≤ x) (h1 : x < 240) : (bits BinOp.and IntKind.u8 x 128 != 0) = true := by
  have h : ∀ y : Fin 256, 224 ≤ (y.val : Int) → (y.val : Int) < 240 → (bits BinOp.and IntKind.u8 (y.val : Int) 128 != 0) = true := by decide +kernel
  have e := h ⟨x.toNat, by omega⟩
  simp only [Int.toNat_of_nonneg (show 0 ≤ x by omega)] at e
  exact e h0 h1
theorem tb4_1 (x : Int) (h0 : 224 ≤ x) (h1 : x < 240) : (bits BinOp.and IntKind.u8 x 64 != 0) = true := by
  have h : ∀ y : Fin 256, 224 ≤ (y.val : Int) → (y.val : Int) < 240 → (bits BinOp.and IntKind.u8 (y.val : Int) 64 != 0) = true := by decide +kernel
  have e := h ⟨x.toNat, by omega⟩
  simp only [Int.toNat_of_nonneg (show 0 ≤ x by omega)] at e
  exact e h0 h1
theorem tb4_2 (x : Int) (h0 : 224 ≤ x) (h1 : x < 240) : (bits BinOp.and IntKind.u8 x 32 != 0) = true := by
  have h : ∀ y : Fin 256, 224 ≤ (y.val : Int) → (y.val : Int) < 240 → (bits BinOp.and IntKind.u8 (y.val : Int) 32 != 0) = true := by decide +kernel
  have e := h ⟨x.toNat, by omega⟩
  simp only [Int.toNat_of_nonneg (show 0 ≤ x by omega)] at e
  exact e h0 h1
theorem tb4_3 (x : Int) (h0 : 224 ≤ x) (h1 : x < 240) : (bits BinOp.and IntKind.u8 x 16 != 0) = false := by
  have h : ∀ y : Fin 256, 224 ≤ (y.val : Int) → (y.val : Int) < 240 → (bits BinOp.and IntKind.u8 (y.val : Int) 16 != 0) = false := by decide +kernel
  have e := h ⟨x.toNat, by omega⟩
  simp only [Int.toNat_of_nonneg (show 0 ≤ x by omega)] at e
  exact e h0 h1
theorem tb5_0 (x : Int) (h0 : 240 ≤ x) (h1 : x < 248) : (bits BinOp.and IntKind.u8 x 128 != 0) = true := by
  have h : ∀ y : Fin 256, 240 ≤ (y.val : Int) → (y.val : Int) < 248 → (bits BinOp.and IntKind.u8 (y.val : Int) 128 != 0) = true := by decide +kernel
  have e := h ⟨x.toNat, by omega⟩
  simp only [Int.toNat_of_nonneg (show 0 ≤ x by omega)] at e
  exact e h0 h1
theorem tb5_1 (x : Int) (h0 : 240 ≤ x) (h1 : x < 248) : (bits BinOp.and IntKind.u8 x 64 != 0) = true := by
  have h : ∀ y : Fin 256, 240 ≤ (y.val : Int) → (y.val : Int) < 248 → (bits BinOp.and IntKind.u8 (y.val : Int) 64 != 0) = true := by decide +kernel
  have e := h ⟨x.toNat, by omega⟩
  simp only [Int.toNat_of_nonneg (show 0 ≤ x by omega)] at e
  exact e h0 h1
theorem tb5_2 (x : Int) (h0 : 240 ≤ x) (h1 : x < 248) : (bits BinOp.and IntKind.u8 x 32 != 0) = true := by
  have h : ∀ y : Fin 256, 240 ≤ (y.val : Int) → (y.val : Int) < 248 → (bits BinOp.and IntKind.u8 (y.val : Int) 32 != 0) = true := by decide +kernel
  have e := h ⟨x.toNat, by omega⟩
  simp only [Int.toNat_of_nonneg (show 0 ≤ x by omega)] at e
  exact e h0 h1
theorem tb5_3 (x : Int) (h0 : 240 ≤ x) (h1 : x < 248) : (bits BinOp.and IntKind.u8 x 16 != 0) = true := by
  have h : ∀ y : Fin 256, 240 ≤ (y.val : Int) → (y.val : Int) < 248 → (bits BinOp.and IntKind.u8 (y.val : Int) 16 != 0) = true := by decide +kernel
  have e := h ⟨x.toNat, by omega⟩
  simp only [Int.toNat_of_nonneg (show 0 ≤ x by omega)] at e
  exact e h0 h1
theorem tb5_4 (x : Int) (h0 : 240 ≤ x) (h1 : x < 248) : (bits BinOp.and IntKind.u8 x 8 != 0) = false := by
  have h : ∀ y : Fin 256, 240 ≤ (y.val : Int) → (y.val : Int) < 248 → (bits BinOp.and IntKind.u8 (y.val : Int) 8 != 0) = false := by decide +kernel
  have e := h ⟨x.toNat, by omega⟩
  simp only [Int.toNat_of_nonneg (show 0 ≤ x by omega)] at e
  exact e h0 h1
theorem tb6_0 (x : Int) (h0 : 248 ≤ x) (h1 : x < 252) : (bits BinOp.and IntKind.u8 x 128 != 0) = true := by
  have h : ∀ y : Fin 256, 248 ≤ (y.val : Int) → (y.val : Int) < 252 → (bits BinOp.and IntKind.u8 (y.val : Int) 128 != 0) = true := by decide +kernel
  have e := h ⟨x.toNat, by omega⟩
  simp only [Int.toNat_of_nonneg (show 0 ≤ x by omega)] at e
  exact e h0 h1
theorem tb6_1 (x : Int) (h0 : 248 ≤ x) (h1 : x < 252) : (bits BinOp.and IntKind.u8 x 64 != 0) = true := by
  have h : ∀ y : Fin 256, 248 ≤ (y.val : Int) → (y.val : Int) < 252 → (bits BinOp.and IntKind.u8 (y.val : Int) 64 != 0) = true := by decide +kernel
  have e := h ⟨x.toNat, by omega⟩
  simp only [Int.toNat_of_nonneg (show 0 ≤ x by omega)] at e
  exact e h0 h1
theorem tb6_2 (x : Int) (h0 : 248 ≤ x) (h1 : x < 252) : (bits BinOp.and IntKind.u8 x 32 != 0) = true := by
  have h : ∀ y : Fin 256, 248 ≤ (y.val : Int) → (y.val : Int) < 252 → (bits BinOp.and IntKind.u8 (y.val : Int) 32 != 0) = true := by decide +kernel
  have e := h ⟨x.toNat, by omega⟩
  simp only [Int.toNat_of_nonneg (show 0 ≤ x by omega)] at e
  exact e h0 h1
theorem tb6_3 (x : Int) (h0 : 248 ≤ x) (h1 : x < 252) : (bits BinOp.and IntKind.u8 x 16 != 0) = true := by
  have h : ∀ y : Fin 256, 248 ≤ (y.val : Int) → (y.val : Int) < 252 → (bits BinOp.and IntKind.u8 (y.val : Int) 16 != 0) = true := by decide +kernel
  have e := h ⟨x.toNat, by omega⟩
  simp only [Int.toNat_of_nonneg (show 0 ≤ x by omega)] at e
  exact e h0 h1
theorem tb6_4 (x : Int) (h0 : 248 ≤ x) (h1 : x < 252) : (bits BinOp.and IntKind.u8 x 8 != 0) = true := by
  have h : ∀ y : Fin 256, 248 ≤ (y.val : Int) → (y.val : Int) < 252 → (bits BinOp.and IntKind.u8 (y.val : Int) 8 != 0) = true := by decide +kernel
  have e := h ⟨x.toNat, by omega⟩
  simp only [Int.toNat_of_nonneg (show 0 ≤ x by omega)] at e
  exact e h0 h1
theorem tb6_5 (x : Int) (h0 : 248 ≤ x) (h1 : x < 252) : (bits BinOp.and IntKind.u8 x 4 != 0) = false := by
  have h : ∀ y : Fin 256, 248 ≤ (y.val : Int) → (y.val : Int) < 252 → (bits BinOp.and IntKind.u8 (y.val : Int) 4 != 0) = false := by decide +kernel
  have e := h ⟨x.toNat, by omega⟩
  simp only [Int.toNat_of_nonneg (show 0 ≤ x by omega)] at e
  exact e h0 h1
theorem tb7_0 (x : Int) (h0 : 252 ≤ x) (h1 : x < 254) : (bits BinOp.and IntKind.u8 x 128 != 0) = true := by
  have h : ∀ y : Fin 256, 252 ≤ (y.val : Int) → (y.val : Int) < 254 → (bits BinOp.and IntKind.u8 (y.val : Int) 128 != 0) = true := by decide +kernel
  have e := h ⟨x.toNat, by omega⟩
  simp only [Int.toNat_of_nonneg (show 0 ≤ x by omega)] at e
  exact e h0 h1
theorem tb7_1 (x : Int) (h0 : 252 ≤ x) (h1 : x < 254) : (bits BinOp.and IntKind.u8 x 64 != 0) = true := by
  have h : ∀ y : Fin 256, 252 ≤ (y.val : Int) → (y.val : Int) < 254 → (bits BinOp.and IntKind.u8 (y.val : Int) 64 != 0) = true := by decide +kernel
  have e := h ⟨x.toNat, by omega⟩
  simp only [Int.toNat_of_nonneg (show 0 ≤ x by omega)] at e
  exact e h0 h1
theorem tb7_2 (x : Int) (h0 : 252 ≤ x) (h1 : x < 254) : (bits BinOp.and IntKind.u8 x 32 != 0) = true := by
  have h : ∀ y : Fin 256, 252 ≤ (y.val : Int) → (y.val : Int) < 254 → (bits BinOp.and IntKind.u8 (y.val : Int) 32 != 0) = true := by decide +kernel
  have e := h ⟨x.toNat, by omega⟩
  simp only [Int.toNat_of_nonneg (show 0 ≤ x by omega)] at e
  exact e h0 h1
theorem tb7_3 (x : Int) (h0 : 252 ≤ x) (h1 : x < 254) : (bits BinOp.and IntKind.u8 x 16 != 0) = true := by
  have h : ∀ y : Fin 256, 252 ≤ (y.val : Int) → (y.val : Int) < 254 → (bits BinOp.and IntKind.u8 (y.val : Int) 16 != 0) = true := by decide +kernel
  have e := h ⟨x.toNat, by omega⟩
  simp only [Int.toNat_of_nonneg (show 0 ≤ x by omega)] at e
  exact e h0 h1
theorem tb7_4 (x : Int) (h0 : 252 ≤ x) (h1 : x < 254) : (bits BinOp.and IntKind.u8 x 8 != 0) = true := by
  have h : ∀ y : Fin 256, 252 ≤ (y.val : Int) → (y.val : Int) < 254 → (bits BinOp.and IntKind.u8 (y.val : Int) 8 != 0) = true := by decide +kernel
  have e := h ⟨x.toNat, by omega⟩
  simp only [Int.toNat_of_nonneg (show 0 ≤ x by omega)] at e
  exact e h0 h1
theorem tb7_5 (x : Int) (h0 : 252 ≤ x) (h1 : x < 254) : (bits BinOp.and IntKind.u8 x 4 != 0) = true := by
  have h : ∀ y : Fin 256, 252 ≤ (y.val : Int) → (y.val : Int) < 254 → (bits BinOp.and IntKind.u8 (y.val : Int) 4 != 0) = true := by decide +kernel
  have e := h ⟨x.toNat, by omega⟩
  simp only [Int.toNat_of_nonneg (show 0 ≤ x by omega)] at e
  exact e h0 h1
theorem tb7_6 (x : Int) (h0 : 252 ≤ x) (h1 : x < 254) : (bits BinOp.and IntKind.u8 x 2 != 0) = false := by
  have h : ∀ y : Fin 256, 252 ≤ (y.val : Int) → (y.val : Int) < 254 → (bits BinOp.and IntKind.u8 (y.val : Int) 2 != 0) = false := by decide +kernel
  have e := h ⟨x.toNat, by omega⟩
  simp only [Int.toNat_of_nonneg (show 0 ≤ x by omega)] at e
  exact e h0 h1
theorem tb8_0 (x : Int) (h0 : 254 ≤ x) (h1 : x < 255) : (bits BinOp.and IntKind.u8 x 128 != 0) = true := by
  have h : ∀ y : Fin 256, 254 ≤ (y.val : Int) → (y.val : Int) < 255 → (bits BinOp.and IntKind.u8 (y.val : Int) 128 != 0) = true := by decide +kernel
  have e := h ⟨x.toNat, by omega⟩
  simp only [Int.toNat_of_nonneg (show 0 ≤ x by omega)] at e
  exact e h0 h1
theorem tb8_1 (x : Int) (h0 : 254 ≤ x) (h1 : x < 255) : (bits BinOp.and IntKind.u8 x 64 != 0) = true := by
  have h : ∀ y : Fin 256, 254 ≤ (y.val : Int) → (y.val : Int) < 255 → (bits BinOp.and IntKind.u8 (y.val : Int) 64 != 0) = true := by decide +kernel
  have e := h ⟨x.toNat, by omega⟩
  simp only [Int.toNat_of_nonneg (show 0 ≤ x by omega)] at e
  exact e h0 h1
theorem tb8_2 (x : Int) (h0 : 254 ≤ x) (h1 : x < 255) : (bits BinOp.and IntKind.u8 x 32 != 0) = true := by
  have h : ∀ y : Fin 256, 254 ≤ (y.val : Int) → (y.val : Int) < 255 → (bits BinOp.and IntKind.u8 (y.val : Int) 32 != 0) = true := by decide +kernel
  have e := h ⟨x.toNat, by omega⟩
  simp only [Int.toNat_of_nonneg (show 0 ≤ x by omega)] at e
  exact e h0 h1
theorem tb8_3 (x : Int) (h0 : 254 ≤ x) (h1 : x < 255) : (bits BinOp.and IntKind.u8 x 16 != 0) = true := by
  have h : ∀ y : Fin 256, 254 ≤ (y.val : Int) → (y.val : Int) < 255 → (bits BinOp.and IntKind.u8 (y.val : Int) 16 != 0) = true := by decide +kernel
  have e := h ⟨x.toNat, by omega⟩
  simp only [Int.toNat_of_nonneg (show 0 ≤ x by omega)] at e
  exact e h0 h1
theorem tb8_4 (x : Int) (h0 : 254 ≤ x) (h1 : x < 255) : (bits BinOp.and IntKind.u8 x 8 != 0) = true := by
  have h : ∀ y : Fin 256, 254 ≤ (y.val : Int) → (y.val : Int) < 255 → (bits BinOp.and IntKind.u8 (y.val : Int) 8 != 0) = true := by decide +kernel
  have e := h ⟨x.toNat, by omega⟩
  simp only [Int.toNat_of_nonneg (show 0 ≤ x by omega)] at e
  exact e h0 h1
theorem tb8_5 (x : Int) (h0 : 254 ≤ x) (h1 : x < 255) : (bits BinOp.and IntKind.u8 x 4 != 0) = true := by
  have h : ∀ y : Fin 256, 254 ≤ (y.val : Int) → (y.val : Int) < 255 → (bits BinOp.and IntKind.u8 (y.val : Int) 4 != 0) = true := by decide +kernel
  have e := h ⟨x.toNat, by omega⟩
  simp only [Int.toNat_of_nonneg (show 0 ≤ x by omega)] at e
  exact e h0 h1
theorem tb8_6 (x : Int) (h0 : 254 ≤ x) (h1 : x < 255) : (bits BinOp.and IntKind.u8 x 2 != 0) = true := by
  have h : ∀ y : Fin 256, 254 ≤ (y.val : Int) → (y.val : Int) < 255 → (bits BinOp.and IntKind.u8 (y.val : Int) 2 != 0) = true := by decide +kernel
  have e := h ⟨x.toNat, by omega⟩
  simp only [Int.toNat_of_nonneg (show 0 ≤ x by omega)] at e
  exact e h0 h1
theorem tb8_7 (x : Int) (h0 : 254 ≤ x) (h1 : x < 255) : (bits BinOp.and IntKind.u8 x 1 != 0) = false := by
  have h : ∀ y : Fin 256, 254 ≤ (y.val : Int) → (y.val : Int) < 255 → (bits BinOp.and IntKind.u8 (y.val : Int) 1 != 0) = false := by decide +kernel
  have e := h ⟨x.toNat, by omega⟩
  simp only [Int.toNat_of_nonneg (show 0 ≤ x by omega)] at e
  exact e h0 h1

end Go.Proofs.Yteifaipbckhoiab
