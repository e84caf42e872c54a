/- PolicyKnown: the nine policies that may not be. -/
import Derived.Test.YtcigbfjmnhogiabGreatDoorCk
namespace Go.Proofs.YtcigbfjmnhogiabGreatDoor
open Go Go.RowKit

/-- Their rules and readers. -/
def oddL : List (List RuleD × List ReaderD) := [
  (List.replicate 65 (⟨#[]⟩, 0, 0), []),
  ([], List.replicate 17 (⟨#[]⟩, 0, 0, 0, 0)),
  ([(⟨#[98]⟩, 0, 0), (⟨#[97]⟩, 0, 0)], []),
  ([(⟨#[97]⟩, 0, 0), (⟨#[97]⟩, 0, 0)], []),
  ([(⟨#[97]⟩, 8, 0)], []),
  ([], [(⟨#[97]⟩, 0, 0, 1, 0)]),
  ([], [(⟨#[97]⟩, 0, 0, 2, -1)]),
  ([], [(⟨#[97]⟩, 0, 0, 2, 0), (⟨#[97]⟩, 0, 0, 2, 0)]),
  ([], [(⟨#[97]⟩, -1, 0, 2, 0)])]
theorem odd_len : oddL.length = 9 := by decide
set_option maxRecDepth 100000 in
theorem odd_bad : ∀ p ∈ oddL, okPol p.1 p.2 = false := by decide +kernel
/-- A block of nine policies: each cell pair is a policy that may not be. -/
def Od (w : World) (b : Nat) : Prop := b < w.heap.size ∧ ∀ i : Nat, i < 9 → ∃ u v rs qs, El encR 3 w u rs ∧ El encQ 5 w v qs ∧ okPol rs qs = false ∧ w.cell? ⟨b, 2 * i, none⟩ = some u ∧ w.cell? ⟨b, 2 * i + 1, none⟩ = some v
theorem Od.keep {w w' : World} {b : Nat} (h : Od w b) (k : Below w.heap.size w w') : Od w' b := by
  refine ⟨Nat.lt_of_lt_of_le h.1 k.size, fun i hi => ?_⟩
  obtain ⟨u, v, rs, qs, h1, h2, h3, h4, h5⟩ := h.2 i hi
  exact ⟨u, v, rs, qs, h1.keep k, h2.keep k, h3, (below_cell k (p := ⟨b, 2 * i, none⟩) h.1).trans h4, (below_cell k (p := ⟨b, 2 * i + 1, none⟩) h.1).trans h5⟩
end Go.Proofs.YtcigbfjmnhogiabGreatDoor
