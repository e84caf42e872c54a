/- MACs as pure functions: a key made whole, bytes added bit by bit. -/
import Derived.Test.YteefpbeglmnilaaDoorHx
namespace Go.Proofs.YteefpbeglmnilaaDoor
open Go.RowKit
set_option linter.unusedVariables false

namespace Sha
/-- A key made whole. -/
def key64 (l : List Int) : List Int := pad (if 64 < l.length then dig l else l)
/-- A byte added to each byte, bit by bit. -/
def mix (y : Int) (l : List Int) : List Int := l.map fun x => bits .xor .u8 x y
/-- The MAC of bytes under a key. -/
def mac (k b : List Int) : List Int := dig (mix 92 (key64 k) ++ dig (mix 54 (key64 k) ++ b))
end Sha

theorem xor8 (x y : Int) (hx : 0 ≤ x ∧ x ≤ 255) (hy : 0 ≤ y ∧ y ≤ 255) : 0 ≤ bits .xor .u8 x y ∧ bits .xor .u8 x y ≤ 255 := by
  obtain ⟨a, rfl⟩ := Int.eq_ofNat_of_zero_le hx.1
  obtain ⟨b, rfl⟩ := Int.eq_ofNat_of_zero_le hy.1
  rw [u8_xor_nat a b (by omega) (by omega)]
  have hlt : a ^^^ b < 2 ^ 8 := Nat.xor_lt_two_pow (by omega) (by omega)
  omega

theorem mix_len (y : Int) (l : List Int) : (Sha.mix y l).length = l.length := List.length_map _
theorem byt_mix (y : Int) (l : List Int) (hy : 0 ≤ y ∧ y ≤ 255) (h : Byt l) : Byt (Sha.mix y l) := fun x hx => by
  obtain ⟨z, hz, rfl⟩ := List.mem_map.1 hx
  exact xor8 z y (h z hz) hy
theorem key64_len (l : List Int) : (Sha.key64 l).length = 64 := by
  unfold Sha.key64
  refine Sha.pad_len _ ?_
  split
  · rw [dig_len]; decide
  · omega
theorem byt_key64 (l : List Int) (h : Byt l) : Byt (Sha.key64 l) := by
  unfold Sha.key64
  refine byt_pad _ ?_
  split
  · exact byt_dig l
  · exact h
theorem mac_len (k b : List Int) : (Sha.mac k b).length = 32 := dig_len _
theorem byt_mac (k b : List Int) : Byt (Sha.mac k b) := byt_dig _

theorem pad_zeros (l : List Int) (n : Nat) (h : l.length + n ≤ 64) : Sha.pad (l ++ List.replicate n 0) = Sha.pad l := by
  unfold Sha.pad
  rw [List.append_assoc, List.replicate_append_replicate, List.length_append, List.length_replicate]
  congr 2
  omega
/-- A key that is made longer by bytes 0, 64 at most, is made whole the same. -/
theorem key64_zeros (l : List Int) (n : Nat) (h : l.length + n ≤ 64) : Sha.key64 (l ++ List.replicate n 0) = Sha.key64 l := by
  unfold Sha.key64
  rw [if_neg (by rw [List.length_append, List.length_replicate]; omega), if_neg (by omega), pad_zeros l n h]
/-- So is the digest of a long one. -/
theorem key64_dig (l : List Int) (h : 64 < l.length) : Sha.key64 (Sha.dig l) = Sha.key64 l := by
  unfold Sha.key64
  rw [if_pos h, if_neg (by rw [dig_len]; decide)]
theorem mac_zeros (l b : List Int) (n : Nat) (h : l.length + n ≤ 64) : Sha.mac (l ++ List.replicate n 0) b = Sha.mac l b := by
  unfold Sha.mac; rw [key64_zeros l n h]
theorem mac_dig (l b : List Int) (h : 64 < l.length) : Sha.mac (Sha.dig l) b = Sha.mac l b := by
  unfold Sha.mac; rw [key64_dig l h]

end Go.Proofs.YteefpbeglmnilaaDoor
