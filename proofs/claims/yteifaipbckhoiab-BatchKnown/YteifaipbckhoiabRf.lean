/- The document's answer: in how many bytes a number is written, and its bytes. -/
import Derived.Test.YteifaipbckhoiabMd
import Derived.Handy
namespace Go.Proofs.Yteifaipbckhoiab
open Go.RowKit
set_option linter.unusedVariables false

theorem orB0 (y : Int) (h0 : 0 ≤ y) (h1 : y < 128) : bits BinOp.or IntKind.u8 y 128 = y + 128 := by
  have h : ∀ y : Fin 256, 0 ≤ (y.val : Int) → (y.val : Int) < 128 → bits BinOp.or IntKind.u8 (y.val : Int) 128 = (y.val : Int) + 128 := by decide +kernel
  have e := h ⟨y.toNat, by omega⟩
  simp only [Int.toNat_of_nonneg (show 0 ≤ y by omega)] at e
  exact e h0 h1

theorem orB1 (y : Int) (h0 : 128 ≤ y) (h1 : y < 192) : bits BinOp.or IntKind.u8 y 64 = y + 64 := by
  have h : ∀ y : Fin 256, 128 ≤ (y.val : Int) → (y.val : Int) < 192 → bits BinOp.or IntKind.u8 (y.val : Int) 64 = (y.val : Int) + 64 := by decide +kernel
  have e := h ⟨y.toNat, by omega⟩
  simp only [Int.toNat_of_nonneg (show 0 ≤ y by omega)] at e
  exact e h0 h1

theorem orB2 (y : Int) (h0 : 192 ≤ y) (h1 : y < 224) : bits BinOp.or IntKind.u8 y 32 = y + 32 := by
  have h : ∀ y : Fin 256, 192 ≤ (y.val : Int) → (y.val : Int) < 224 → bits BinOp.or IntKind.u8 (y.val : Int) 32 = (y.val : Int) + 32 := by decide +kernel
  have e := h ⟨y.toNat, by omega⟩
  simp only [Int.toNat_of_nonneg (show 0 ≤ y by omega)] at e
  exact e h0 h1

theorem orB3 (y : Int) (h0 : 224 ≤ y) (h1 : y < 240) : bits BinOp.or IntKind.u8 y 16 = y + 16 := by
  have h : ∀ y : Fin 256, 224 ≤ (y.val : Int) → (y.val : Int) < 240 → bits BinOp.or IntKind.u8 (y.val : Int) 16 = (y.val : Int) + 16 := by decide +kernel
  have e := h ⟨y.toNat, by omega⟩
  simp only [Int.toNat_of_nonneg (show 0 ≤ y by omega)] at e
  exact e h0 h1

theorem orB4 (y : Int) (h0 : 240 ≤ y) (h1 : y < 248) : bits BinOp.or IntKind.u8 y 8 = y + 8 := by
  have h : ∀ y : Fin 256, 240 ≤ (y.val : Int) → (y.val : Int) < 248 → bits BinOp.or IntKind.u8 (y.val : Int) 8 = (y.val : Int) + 8 := by decide +kernel
  have e := h ⟨y.toNat, by omega⟩
  simp only [Int.toNat_of_nonneg (show 0 ≤ y by omega)] at e
  exact e h0 h1

theorem orB5 (y : Int) (h0 : 248 ≤ y) (h1 : y < 252) : bits BinOp.or IntKind.u8 y 4 = y + 4 := by
  have h : ∀ y : Fin 256, 248 ≤ (y.val : Int) → (y.val : Int) < 252 → bits BinOp.or IntKind.u8 (y.val : Int) 4 = (y.val : Int) + 4 := by decide +kernel
  have e := h ⟨y.toNat, by omega⟩
  simp only [Int.toNat_of_nonneg (show 0 ≤ y by omega)] at e
  exact e h0 h1

theorem orB6 (y : Int) (h0 : 252 ≤ y) (h1 : y < 254) : bits BinOp.or IntKind.u8 y 2 = y + 2 := by
  have h : ∀ y : Fin 256, 252 ≤ (y.val : Int) → (y.val : Int) < 254 → bits BinOp.or IntKind.u8 (y.val : Int) 2 = (y.val : Int) + 2 := by decide +kernel
  have e := h ⟨y.toNat, by omega⟩
  simp only [Int.toNat_of_nonneg (show 0 ≤ y by omega)] at e
  exact e h0 h1

/-- A row of bytes in a new block. -/
def RowEnd (w : World) (l : List Int) (e : Ending) (w' : World) : Prop :=
  ∃ k nq, e = .returned (.slice (some ⟨w.heap.size, 0, none⟩) l.length k) ∧ k = l.length ∧ w' = (w.alloc (.cells (u8s l) 5)).drewN nq

end Go.Proofs.Yteifaipbckhoiab
