/- veil's figures: what each is worth. -/
import Derived.Test.YtcgimbomandjfabSa
namespace Go.Proofs.Ytcgimbomandjfab
open Go.RowKit
set_option linter.unusedVariables false

/-- What a figure of so many bits is worth; below 0: it is none. -/
def wr3 (c : Nat) : Int := if 48 ≤ c ∧ c ≤ 55 then (c : Int) - 48 else -1
def wr4 (c : Nat) : Int := if 48 ≤ c ∧ c ≤ 57 then (c : Int) - 48 else if 97 ≤ c ∧ c ≤ 102 then (c : Int) - 87 else -1

def figs : ByteArray := ⟨#[48, 49, 50, 51, 52, 53, 54, 55, 56, 57, 97, 98, 99, 100, 101, 102]⟩

theorem fig3 : ∀ c : Fin 128, firstIdx (figs.extract 0 8) c.val.toUInt8 = wr3 c.val := by decide +kernel
theorem fig4 : ∀ c : Fin 128, firstIdx (figs.extract 0 16) c.val.toUInt8 = wr4 c.val := by decide +kernel
theorem asc3 : ∀ b ∈ (figs.extract 0 8).data.toList, b.toNat < 128 := by decide +kernel
theorem asc4 : ∀ b ∈ (figs.extract 0 16).data.toList, b.toNat < 128 := by decide +kernel
theorem size3 : (figs.extract 0 8).size = 8 := by decide +kernel
theorem size4 : (figs.extract 0 16).size = 16 := by decide +kernel

theorem irune_high (s : ByteArray) (r : Int) (w : World) (h128 : 128 ≤ r) (hs : ∀ b ∈ s.data.toList, b.toNat < 128) (h8 : 8 ≤ s.size) (h16 : s.size ≤ 16) :
    Calls Try.prog 29 #[.string s, .int .i32 r] w fun e w' => VEnd w (.int .i64 (-1)) e w' := by
  by_cases h : r = 65533
  · subst h; exact irune_err s w hs
  · cases hv : validRune r
    · exact irune_no s r w h128 h hv
    · exact irune_yes s r w h128 h hv hs h8 h16

theorem irune3 (r : Nat) (w : World) : Calls Try.prog 29 #[.string (figs.extract 0 8), .int .i32 (r : Int)] w fun e w' => VEnd w (.int .i64 (wr3 r)) e w' := by
  by_cases h : r < 128
  · refine (irune_low _ (r : Int) _ w (by omega) (by omega) (fig3 ⟨r, h⟩)).mono ?_
    rintro e w' ⟨rfl, rfl⟩
    exact VEnd.mk (Below.refl _ _)
  · rw [show wr3 r = -1 by unfold wr3; rw [if_neg (by omega)]]
    exact irune_high _ _ w (by omega) asc3 (by rw [size3]; omega) (by rw [size3]; omega)

theorem irune4 (r : Nat) (w : World) : Calls Try.prog 29 #[.string (figs.extract 0 16), .int .i32 (r : Int)] w fun e w' => VEnd w (.int .i64 (wr4 r)) e w' := by
  by_cases h : r < 128
  · refine (irune_low _ (r : Int) _ w (by omega) (by omega) (fig4 ⟨r, h⟩)).mono ?_
    rintro e w' ⟨rfl, rfl⟩
    exact VEnd.mk (Below.refl _ _)
  · rw [show wr4 r = -1 by unfold wr4; rw [if_neg (by omega), if_neg (by omega)]]
    exact irune_high _ _ w (by omega) asc4 (by rw [size4]; omega) (by rw [size4]; omega)

set_option maxRecDepth 100000 in
set_option maxHeartbeats 1000000 in
theorem worth3 (r b : Nat) (w : World) (hc : w.cell? ⟨b, 0, none⟩ = some (.int .i64 3)) :
    Calls Try.prog 28 #[.int .i32 (r : Int), .pointer (some ⟨b, 0, none⟩)] w fun e w' => VEnd w (.int .i64 (wr3 r)) e w' := by
  go_enter Try.func28, Try.ntmps28
  go_wp2_with fail
  refine (irune3 r w).mono ?_
  rintro e w' ⟨rfl, hk⟩
  go_wp2_with fail
  go_ret
  exact VEnd.mk hk

set_option maxRecDepth 100000 in
set_option maxHeartbeats 1000000 in
theorem worth4 (r b : Nat) (w : World) (hc : w.cell? ⟨b, 0, none⟩ = some (.int .i64 4)) :
    Calls Try.prog 28 #[.int .i32 (r : Int), .pointer (some ⟨b, 0, none⟩)] w fun e w' => VEnd w (.int .i64 (wr4 r)) e w' := by
  go_enter Try.func28, Try.ntmps28
  go_wp2_with fail
  refine (irune4 r w).mono ?_
  rintro e w' ⟨rfl, hk⟩
  go_wp2_with fail
  go_ret
  exact VEnd.mk hk

end Go.Proofs.Ytcgimbomandjfab
