/- The document's Check. -/
import Derived.Test.YtcigbfjmnhogiabGreatDoorCk
namespace Go.Proofs.YtcigbfjmnhogiabGreatDoor
open Go.RowKit
set_option linter.unusedVariables false

/-- The rows so far may be. -/
theorem all_take {α : Type} [Inhabited α] {p : α → Bool} {xs : List α} (h : ∀ t, t < xs.length → p xs[t]! = true) : xs.all p = true := by
  rw [List.all_eq_true]
  intro r hr
  obtain ⟨t, ht, rfl⟩ := List.getElem_of_mem hr
  have := h t ht
  rw [getElem!_pos xs t ht] at this
  exact this
theorem all_not {α : Type} {p : α → Bool} {xs : List α} {t : Nat} (ht : t < xs.length) (h : p xs[t] = false) : xs.all p = false := by
  rw [List.all_eq_false]
  exact ⟨xs[t], List.getElem_mem ht, by rw [h]; simp⟩
theorem bl_leq (a b : ByteArray) (q : Bool) (h : lts b a = q) : (Op.bytesLess a.toList b.toList || a.toList == b.toList) = !q := by
  rw [ByteArray.toList_eq, ByteArray.toList_eq]
  subst h
  cases hl : lts b a
  · cases hk : lts a b
    · have e := lts_tot hk hl
      subst e
      simp
    · unfold lts at hk
      rw [hk]
      rfl
  · have h1 := lts_asym hl
    unfold lts at h1
    rw [h1, Bool.false_or, Bool.not_true, beq_eq_false_iff_ne]
    intro e
    exact lts_ne hl (ba_ext e).symm

end Go.Proofs.YtcigbfjmnhogiabGreatDoor
