/- What math/bits tells of a number: 0 of 0, and at least 1 of any other one. -/
import Derived.Test.YtcgimbomandjfabProg
import Derived.WalkKit
import Derived.WalkSpells
import Derived.WalkLawsBesides
import Derived.Lib.BitFns
namespace Go.Proofs.Ytcgimbomandjfab
open Go.RowKit

theorem len8_bd (i : Int) (h0 : 0 ≤ i) (h1 : i ≤ 255) : 0 ≤ Lib.len8 i ∧ Lib.len8 i ≤ 8 ∧ (1 ≤ i → 1 ≤ Lib.len8 i) ∧ (i = 0 → Lib.len8 i = 0) := by
  have h : ∀ n : Fin 256, 0 ≤ Lib.len8 (n.val : Int) ∧ Lib.len8 (n.val : Int) ≤ 8 ∧ (1 ≤ n.val → 1 ≤ Lib.len8 (n.val : Int)) ∧ (n.val = 0 → Lib.len8 (n.val : Int) = 0) := by decide +kernel
  have e := h ⟨i.toNat, by omega⟩
  simp only [Int.toNat_of_nonneg h0] at e
  exact ⟨e.1, e.2.1, fun q => e.2.2.1 (by omega), fun q => e.2.2.2 (by omega)⟩

theorem wr64 (k l : Int) (h0 : 0 ≤ k) (h1 : k ≤ 56) (h2 : 0 ≤ l) (h3 : l ≤ 8) : wrap64 (k + wrap64 l) = k + l := by
  unfold wrap64; omega
theorem wr64b (l : Int) (h2 : 0 ≤ l) (h3 : l ≤ 8) : wrap64 (wrap64 l) = l := by
  unfold wrap64; omega

set_option maxRecDepth 100000 in
set_option maxHeartbeats 400000 in
theorem len64_zero (w : World) :
    Calls Try.prog 42 #[.int .u64 0] w fun e w' => e = .returned (.int .i64 0) ∧ w' = w := by
  go_enter Try.func42, Try.ntmps42
  go_wp2
  go_ret
  have h := len8_bd 0 (by omega) (by omega)
  exact ⟨by simp [h.2.2.2 rfl, wrap64], rfl⟩

theorem len8_get (y : Int) (h : y.toNat < Lib.len8tab.size) : ((Lib.len8tab[y.toNat]'h).toNat : Int) = Lib.len8 y := by
  unfold Lib.len8
  rw [getElem?_pos Lib.len8tab y.toNat h]
  rfl

theorem len_end (k y : Int) (h : y.toNat < Lib.len8tab.size) (h0 : 0 ≤ k) (h1 : k ≤ 56) (h2 : 1 ≤ y) (h3 : y ≤ 255) : 1 ≤ wrap64 (k + wrap64 ((Lib.len8tab[y.toNat]'h).toNat : Int)) := by
  have b := len8_bd y (by omega) (by omega)
  rw [len8_get y h, wr64 k _ h0 h1 b.1 b.2.1]
  have := b.2.2.1 h2
  omega
theorem len_end0 (y : Int) (h : y.toNat < Lib.len8tab.size) (h2 : 1 ≤ y) (h3 : y ≤ 255) : 1 ≤ wrap64 (wrap64 ((Lib.len8tab[y.toNat]'h).toNat : Int)) := by
  have b := len8_bd y (by omega) (by omega)
  rw [len8_get y h, wr64b _ b.1 b.2.1]
  exact b.2.2.1 h2

set_option maxRecDepth 100000 in
set_option maxHeartbeats 400000 in
theorem len64_pos (x : Int) (w : World) (h0 : 1 ≤ x) (h1 : x < 72057594037927936) :
    Calls Try.prog 42 #[.int .u64 x] w fun e w' => (∃ r : Int, 1 ≤ r ∧ e = .returned (.int .i64 r)) ∧ w' = w := by
  have hs : Lib.len8tab.size = 256 := Lib.len8tab_size
  go_enter Try.func42, Try.ntmps42
  go_wp2
  all_goals go_ret
  all_goals refine ⟨⟨_, ?_, rfl⟩, rfl⟩
  all_goals first
    | exact len_end _ _ _ (by omega) (by omega) (by omega) (by omega)
    | exact len_end0 _ _ (by omega) (by omega)

set_option maxHeartbeats 400000 in
theorem len_zero (w : World) :
    Calls Try.prog 37 #[.int .u64 0] w fun e w' => e = .returned (.int .i64 0) ∧ w' = w := by
  go_enter Try.func37, Try.ntmps37
  go_wp2_with (go_at_call 42; refine (len64_zero _).mono ?_; rintro e w' ⟨rfl, rfl⟩)
  go_ret
  exact ⟨rfl, rfl⟩

set_option maxHeartbeats 400000 in
theorem len_pos (x : Int) (w : World) (h0 : 1 ≤ x) (h1 : x < 72057594037927936) :
    Calls Try.prog 37 #[.int .u64 x] w fun e w' => (∃ r : Int, 1 ≤ r ∧ e = .returned (.int .i64 r)) ∧ w' = w := by
  go_enter Try.func37, Try.ntmps37
  go_wp2_with (go_at_call 42; refine (len64_pos _ _ h0 h1).mono ?_; rintro e w' ⟨⟨r, hr, rfl⟩, rfl⟩)
  go_ret
  exact ⟨⟨r, hr, rfl⟩, rfl⟩

end Go.Proofs.Ytcgimbomandjfab
