/- Texts that are repeated, as bytes. -/
import Derived.Test.YteefpbeglmnilaaDoorKr
namespace Go.Proofs.YteefpbeglmnilaaDoor
open Go.RowKit
set_option linter.unusedVariables false

/-- A text that is repeated, as bytes. -/
theorem rep_conv (x : UInt8) (n : Nat) (hn : n ≤ 140737488355328) (w : World) :
    ∃ cap w', (convert 9 22 (.string ⟨(Lib.repeatL [x] n).toArray⟩)).run Tryd.prog w = .ok (.slice (some ⟨w.heap.size, 0, none⟩) n cap) w' ∧ Sl w' (.slice (some ⟨w.heap.size, 0, none⟩) n cap) (List.replicate n (x.toNat : Int)) ∧ Below w.heap.size w w' := by
  have hs : (⟨(Lib.repeatL [x] n).toArray⟩ : ByteArray).size = n := by
    show (Lib.repeatL [x] n).toArray.size = n
    rw [List.size_toArray, Lib.repeatL_length]; simp
  have hr := run_bytes_of_string (P := Tryd.prog) w 9 22 5 ⟨(Lib.repeatL [x] n).toArray⟩ Tryd.underlying9 und25 Tryd.underlying5
  rw [hs] at hr
  refine ⟨_, _, hr, ?_, ((Below.refl _ _).drew).alloc (by simp) _⟩
  have hrep : Lib.repeatL [x] n = List.replicate n x := by
    have h := Lib.repeatL_replicate x 1 n
    rw [Nat.mul_one] at h
    exact h
  by_cases h0 : n = 0
  · subst h0
    exact Or.inl ⟨rfl, _, _, rfl⟩
  · refine Or.inr ⟨w.heap.size, 0, _, by rw [List.length_replicate], by rw [List.length_replicate]; omega, by rw [List.length_replicate]; exact grownCap_ge w n 0 5, by rw [List.length_replicate]; exact hn, by simp, fun i hi => ?_⟩
    rw [List.length_replicate] at hi
    have hi' : i < (⟨(Lib.repeatL [x] n).toArray⟩ : ByteArray).data.size := by
      show i < (Lib.repeatL [x] n).toArray.size
      rw [List.size_toArray, hrep, List.length_replicate]; exact hi
    have hb := bytesRow_at ⟨(Lib.repeatL [x] n).toArray⟩ (grownCap w n 0 5) i hi'
    rw [Nat.zero_add, cell_of_row _ w.heap.size i _ 5 _ (heap_alloc_new w.drew _), hb, List.getD_eq_getElem?_getD, List.getElem?_replicate, if_pos hi]
    simp [hrep]
end Go.Proofs.YteefpbeglmnilaaDoor
