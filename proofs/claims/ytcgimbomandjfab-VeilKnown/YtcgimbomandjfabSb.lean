/- strings.Cut at one byte. -/
import Derived.Test.YtcgimbomandjfabSa
namespace Go.Proofs.Ytcgimbomandjfab
open Go.RowKit
set_option linter.unusedVariables false

set_option maxRecDepth 100000 in
set_option maxHeartbeats 1000000 in
theorem index1 (s : ByteArray) (k : Int) (w : World) (h : firstIdx s 58 = k) :
    Calls Try.prog 32 #[.string s, .string ⟨#[58]⟩] w fun e w' => e = .returned (.int .i64 k) ∧ w' = w := by
  by_cases hs : (⟨#[58]⟩ : ByteArray) = s
  · subst hs
    have hk : k = 0 := by rw [← h]; decide +kernel
    subst hk
    clear h
    go_enter Try.func32, Try.ntmps32
    go_wp2_with fail
    go_ret
    exact ⟨rfl, rfl⟩
  · have H := hd h
    have hb : (([58] : List UInt8) == s.toList) = false := by
      rw [beq_eq_false_iff_ne]
      intro e
      apply hs
      rw [ByteArray.toList_eq] at e
      obtain ⟨⟨d⟩⟩ := s
      simp at e
      rw [← e]
    clear h hs
    go_enter Try.func32, Try.ntmps32
    go_wp2_with fail
    refine (idxb s 58 k _ H.out).mono ?_
    rintro e w' ⟨rfl, rfl⟩
    go_wp2_with fail
    go_ret
    exact ⟨rfl, rfl⟩

set_option maxRecDepth 100000 in
set_option maxHeartbeats 1000000 in
theorem lcut_miss (s : ByteArray) (w : World) (h : firstIdx s 58 = -1) :
    Calls Try.prog 27 #[.string s, .string ⟨#[58]⟩] w fun e w' => e = .returned (.tuple #[.string s, .string ⟨#[]⟩, .bool false]) ∧ ∃ n, w' = w.drewN n := by
  have H := hd h
  clear h
  go_enter Try.func27, Try.ntmps27
  go_wp2_with fail
  refine (index1 s (-1) _ H.out).mono ?_
  rintro e w' ⟨rfl, rfl⟩
  go_wp2_with fail
  go_ret3
  exact ⟨rfl, 0, rfl⟩

set_option maxRecDepth 100000 in
set_option maxHeartbeats 1000000 in
theorem lcut_hit (s : ByteArray) (i j n : Nat) (w : World) (hj : i + 1 = j) (h : firstIdx s 58 = (i : Int)) (hn : s.size = n) (hi : i < n) (hb : n ≤ 140737488355328) :
    Calls Try.prog 27 #[.string s, .string ⟨#[58]⟩] w fun e w' => e = .returned (.tuple #[.string (s.extract 0 i), .string (s.extract j n), .bool true]) ∧ ∃ n, w' = w.drewN n := by
  have H := hd h
  clear h
  have c0 : (0 : Int) ≤ (i : Int) := by omega
  have c1 : (i : Int) ≤ (n : Int) := by omega
  have c2 : IntKind.i64.wrap ((i : Int) + 1) = (j : Int) := by rw [wrap_small _ (by omega) (by omega)]; omega
  have c3 : (0 : Int) ≤ (j : Int) := by omega
  have c4 : (j : Int) ≤ (n : Int) := by omega
  clear hj hi
  go_enter Try.func27, Try.ntmps27
  go_wp2_with fail
  refine (index1 s i _ H.out).mono ?_
  rintro e w' ⟨rfl, rfl⟩
  go_wp2_with fail
  go_region
  go_wp2_with fail
  go_ret3
  exact ⟨rfl, 1, rfl⟩

set_option maxHeartbeats 400000 in
theorem cut_miss (s : ByteArray) (w : World) (h : firstIdx s 58 = -1) :
    Calls Try.prog 22 #[.string s, .string ⟨#[58]⟩] w fun e w' => e = .returned (.tuple #[.string s, .string ⟨#[]⟩, .bool false]) ∧ ∃ n, w' = w.drewN n := by
  have H := hd h
  clear h
  go_enter Try.func22, Try.ntmps22
  go_wp2_with (go_at_call 27; refine (lcut_miss _ _ H.out).mono ?_; rintro e w' ⟨rfl, n, rfl⟩)
  go_ret3
  exact ⟨rfl, n, rfl⟩

set_option maxHeartbeats 400000 in
theorem cut_hit (s : ByteArray) (i j n : Nat) (w : World) (hj : i + 1 = j) (h : firstIdx s 58 = (i : Int)) (hn : s.size = n) (hi : i < n) (hb : n ≤ 140737488355328) :
    Calls Try.prog 22 #[.string s, .string ⟨#[58]⟩] w fun e w' => e = .returned (.tuple #[.string (s.extract 0 i), .string (s.extract j n), .bool true]) ∧ ∃ n, w' = w.drewN n := by
  have H := hd (lcut_hit s i j n · hj h hn hi hb)
  clear h hj hn hi hb
  go_enter Try.func22, Try.ntmps22
  go_wp2_with (go_at_call 27; refine (H.out _).mono ?_; rintro e w' ⟨rfl, n, rfl⟩)
  go_ret3
  exact ⟨rfl, n, rfl⟩

end Go.Proofs.Ytcgimbomandjfab
