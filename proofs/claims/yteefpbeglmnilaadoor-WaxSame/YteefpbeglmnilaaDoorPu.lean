/- Messages in blocks: what a knot holds behind some bytes. -/
import Derived.Test.YteefpbeglmnilaaDoorKn
namespace Go.Proofs.YteefpbeglmnilaaDoor
open Go.RowKit
set_option linter.unusedVariables false

namespace Sha
/-- The words behind the first k blocks. -/
def upb (l : List Int) : Nat → R
  | 0 => H
  | k + 1 => tie K (upb l k) ((l.drop (64 * k)).take 64)
/-- The words behind the whole blocks. -/
def td (l : List Int) : R := upb l (l.length / 64)
/-- The bytes behind them, then bytes 0. -/
def pad (p : List Int) : List Int := p ++ List.replicate (64 - p.length) 0
def rest (l : List Int) : List Int := l.drop (64 * (l.length / 64))
/-- The digest. -/
def dig (l : List Int) : List Int := b32 (td (whole l))

theorem upb_append (l x : List Int) : ∀ k, 64 * k ≤ l.length → upb (l ++ x) k = upb l k
  | 0, _ => rfl
  | k + 1, h => by
    rw [upb, upb, upb_append l x k (by omega), List.drop_append_of_le_length (by omega), List.take_append_of_le_length (by rw [List.length_drop]; omega)]

theorem rest_len (l : List Int) : (rest l).length = l.length % 64 := by
  unfold rest; rw [List.length_drop]; omega
theorem pad_len (p : List Int) (h : p.length ≤ 64) : (pad p).length = 64 := by
  unfold pad; simp; omega

theorem rest_append (l x : List Int) (h : l.length % 64 + x.length < 64) : rest (l ++ x) = rest l ++ x := by
  unfold rest
  rw [List.length_append, show (l.length + x.length) / 64 = l.length / 64 by omega, List.drop_append_of_le_length (by omega)]
theorem td_append (l x : List Int) (h : l.length % 64 + x.length < 64) : td (l ++ x) = td l := by
  unfold td
  rw [List.length_append, show (l.length + x.length) / 64 = l.length / 64 by omega, upb_append l x _ (by omega)]
theorem rest_full (l x : List Int) (h : l.length % 64 + x.length = 64) : rest (l ++ x) = [] := by
  unfold rest
  rw [List.length_append, show (l.length + x.length) / 64 = l.length / 64 + 1 by omega, List.drop_eq_nil_of_le (by rw [List.length_append]; omega)]
theorem td_full (l x : List Int) (h : l.length % 64 + x.length = 64) : td (l ++ x) = tie K (td l) (rest l ++ x) := by
  unfold td rest
  rw [List.length_append, show (l.length + x.length) / 64 = l.length / 64 + 1 by omega, upb, upb_append l x _ (by omega), List.drop_append_of_le_length (by omega), List.take_of_length_le (by rw [List.length_append, List.length_drop]; omega)]

theorem pad_put (p x : List Int) (h : p.length + x.length ≤ 64) : (pad p).take p.length ++ x ++ (pad p).drop (p.length + x.length) = pad (p ++ x) := by
  unfold pad
  rw [List.take_append_of_le_length (Nat.le_refl _), List.take_length, List.drop_append, List.drop_eq_nil_of_le (by omega), List.nil_append, List.length_append, List.drop_replicate]
  congr 2
  omega
theorem pad_full (p : List Int) (h : p.length = 64) : pad p = p := by
  unfold pad; rw [h]; simp
theorem pad_nil : pad [] = List.replicate 64 0 := rfl

theorem none_dig : dig [] = [0xe3, 0xb0, 0xc4, 0x42, 0x98, 0xfc, 0x1c, 0x14, 0x9a, 0xfb, 0xf4, 0xc8, 0x99, 0x6f, 0xb9, 0x24, 0x27, 0xae, 0x41, 0xe4, 0x64, 0x9b, 0x93, 0x4c, 0xa4, 0x95, 0x99, 0x1b, 0x78, 0x52, 0xb8, 0x55] := by decide +kernel
theorem abc_dig : dig [97, 98, 99] = [0xba, 0x78, 0x16, 0xbf, 0x8f, 0x01, 0xcf, 0xea, 0x41, 0x41, 0x40, 0xde, 0x5d, 0xae, 0x22, 0x23, 0xb0, 0x03, 0x61, 0xa3, 0x96, 0x17, 0x7a, 0x9c, 0xb4, 0x10, 0xff, 0x61, 0xf2, 0x00, 0x15, 0xad] := by decide +kernel
end Sha

/-- The cells of a knot behind these bytes. -/
def kc (l : List Int) : List Value := kn (Sha.td l) Sha.K (Sha.pad (Sha.rest l)) (l.length : Int)

theorem kc_new : kc [] = kn Sha.H Sha.K (List.replicate 64 0) 0 := rfl

theorem kn_front (r : Sha.R) (K : List (BitVec 32)) (p : List Int) (s : Int) : kn r K p s = (Value.bool true :: (ws r.list ++ ws K)) ++ (bs p ++ [.int .i64 s]) := by
  simp [kn]
theorem front_73 (r : Sha.R) (K : List (BitVec 32)) (hK : K.length = 64) : (Value.bool true :: (ws r.list ++ ws K)).length = 73 := by
  simp [ws_len, hK, Sha.R.list]

/-- Bytes put into a knot's part. -/
theorem kn_put (r : Sha.R) (K : List (BitVec 32)) (p x : List Int) (z : Int) (s : Nat) (hK : K.length = 64) (h : s + x.length ≤ p.length) :
    (kn r K p z).take (73 + s) ++ bs x ++ (kn r K p z).drop (73 + s + x.length) = kn r K (p.take s ++ x ++ p.drop (s + x.length)) z := by
  have hf := front_73 r K hK
  rw [kn_front, kn_front]
  generalize Value.bool true :: (ws r.list ++ ws K) = f at *
  rw [List.take_append, List.drop_append, List.take_of_length_le (by omega), List.drop_eq_nil_of_le (by omega), List.nil_append, hf, show 73 + s - 73 = s by omega, show 73 + s + x.length - 73 = s + x.length by omega]
  rw [List.take_append_of_le_length (by rw [bs_len]; omega), List.drop_append_of_le_length (by rw [bs_len]; omega)]
  simp [bs]

theorem kn_setSize (r : Sha.R) (K : List (BitVec 32)) (p : List Int) (z y : Int) (hK : K.length = 64) (hp : p.length = 64) : (kn r K p z).set 137 (.int .i64 y) = kn r K p y := by
  rw [kn_front, kn_front, List.set_append_right _ _ (by rw [front_73 r K hK]; omega), front_73 r K hK, List.set_append_right _ _ (by rw [bs_len, hp]; omega), bs_len, hp]
  rfl

theorem kn_clear (r : Sha.R) (K : List (BitVec 32)) (p : List Int) (z : Int) (hK : K.length = 64) (hp : p.length = 64) :
    (kn r K p z).take 73 ++ bs (List.replicate 64 0) ++ (kn r K p z).drop 137 = kn r K (List.replicate 64 0) z := by
  have h := kn_put r K p (List.replicate 64 0) z 0 hK (by simp [hp])
  have e : p.drop (0 + 64) = [] := List.drop_eq_nil_of_le (by omega)
  rw [List.length_replicate, List.take_zero, List.nil_append, e, List.append_nil] at h
  exact h

end Go.Proofs.YteefpbeglmnilaaDoor
