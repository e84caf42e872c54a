/- A bit that is turned: what comes of it; when bytes and their row fit. -/
import Derived.Test.YtdhgdgcblgdefaaSp
namespace Go.Proofs.Ytdhgdgcblgdefaa
namespace Crc

theorem ofNat_bit (m i : Nat) (h : m < 2 ^ i) : BitVec.ofNat 32 (m + 2 ^ i) = BitVec.ofNat 32 m ^^^ BitVec.ofNat 32 (2 ^ i) := by
  apply BitVec.eq_of_getLsbD_eq
  intro j hj
  rw [BitVec.getLsbD_xor, BitVec.getLsbD_ofNat, BitVec.getLsbD_ofNat, BitVec.getLsbD_ofNat, decide_eq_true hj, Bool.true_and, Bool.true_and, Bool.true_and]
  rw [show m + 2 ^ i = 2 ^ i * 1 + m by omega, Nat.testBit_two_pow_mul_add 1 h, Nat.testBit_two_pow]
  by_cases h8 : j < i
  · rw [if_pos h8, decide_eq_false (by omega), Bool.xor_false]
  · rw [if_neg h8, Nat.testBit_lt_two_pow (Nat.lt_of_lt_of_le h (Nat.pow_le_pow_right (by omega) (by omega))), Bool.false_xor, show (1 : Nat) = 2 ^ 0 from rfl, Nat.testBit_two_pow]
    congr 1
    exact propext ⟨fun h => by omega, fun h => by omega⟩

theorem stn_pow (i n : Nat) (hi : i < 32) : stn (i + n) (BitVec.ofNat 32 (2 ^ i)) = stn n 1#32 := by
  have h2 : 2 ^ i < 2 ^ 32 := Nat.pow_lt_pow_right (by omega) hi
  have h := stn_even i 1 (by rw [Nat.one_mul]; exact h2)
  rw [Nat.one_mul] at h
  rw [stn_add, h]

/-- A bit is turned at place p. -/
theorem reg_flip (r : BitVec 32) (d : List Int) (p : Nat) (v : Int) (hp : p < 8 * d.length) (hv : byt v = byt (d.getD (p / 8) 0) ^^^ BitVec.ofNat 32 (2 ^ (p % 8))) :
    reg r (d.set (p / 8) v) = reg r d ^^^ stn (8 * d.length - p) 1#32 := by
  have hq : p / 8 < d.length := by omega
  have e1 : d.set (p / 8) v = d.take (p / 8) ++ v :: d.drop (p / 8 + 1) := by
    rw [List.set_eq_take_append_cons_drop, if_pos hq]
  have e2 : d = d.take (p / 8) ++ d.getD (p / 8) 0 :: d.drop (p / 8 + 1) := by
    rw [List.getD_eq_getElem?_getD, List.getElem?_eq_getElem hq, Option.getD_some, List.getElem_cons_drop, List.take_append_drop]
  rw [e1]
  conv => rhs; rw [e2]
  rw [reg_append, reg_append, reg_cons, reg_cons]
  have h1 : one (reg r (d.take (p / 8))) v = one (reg r (d.take (p / 8))) (d.getD (p / 8) 0) ^^^ stn 8 (BitVec.ofNat 32 (2 ^ (p % 8))) := by
    unfold one
    rw [hv, ← BitVec.xor_assoc, stn_xor]
  rw [h1, reg_xor, ← stn_add, ← e2]
  congr 1
  have hl : (d.drop (p / 8 + 1)).length = d.length - (p / 8 + 1) := List.length_drop
  rw [hl, show 8 + 8 * (d.length - (p / 8 + 1)) = p % 8 + (8 * d.length - p) by omega]
  exact stn_pow _ _ (by omega)

theorem not_xor (s : BitVec 32) : ~~~ s ^^^ s = BitVec.allOnes 32 := by
  rw [← BitVec.allOnes_xor, BitVec.xor_assoc, BitVec.xor_self, BitVec.xor_zero]

theorem fits (n : Nat) (d : List Int) (hd : Byt d) (hl : d.length = n + 4) : row4 ((on 0#32 (d.take n)).toNat : Int) = d.drop n ↔ reg (~~~ 0#32) d = stn 32 (BitVec.allOnes 32) := by
  have hy : Byt (d.drop n) := hd.drop n
  have hyl : (d.drop n).length = 4 := by rw [List.length_drop]; omega
  have hsplit : reg (~~~ 0#32) d = stn 32 (reg (~~~ 0#32) (d.take n) ^^^ BitVec.ofNat 32 (wd (d.drop n))) := by
    conv => lhs; rw [← List.take_append_drop n d]
    rw [reg_append, feed _ _ hy (by omega), hyl]
  have hlt := wd_lt _ hy
  rw [hyl] at hlt
  have hs : reg (~~~ 0#32) (d.take n) = ~~~ on 0#32 (d.take n) := by unfold on; rw [BitVec.not_not]
  rw [hsplit, hs]
  generalize on 0#32 (d.take n) = s
  have hrb := row4_byt (s.toNat : Int) (by omega) (by have := s.isLt; omega)
  constructor
  · intro h
    have e : BitVec.ofNat 32 (wd (d.drop n)) = s := by
      rw [← h, wd_row4]
      apply BitVec.eq_of_toNat_eq
      rw [BitVec.toNat_ofNat, Nat.mod_eq_of_lt s.isLt]
    rw [e]
    rw [not_xor]
  · intro h
    have h1 := stn_inj _ _ _ h
    have h2 : BitVec.ofNat 32 (wd (d.drop n)) = s := by
      have h3 : ~~~ s ^^^ BitVec.ofNat 32 (wd (d.drop n)) = ~~~ s ^^^ s := by
        rw [h1, not_xor]
      have h4 := congrArg (fun x => ~~~ s ^^^ x) h3
      simp only [← BitVec.xor_assoc, BitVec.xor_self, BitVec.zero_xor] at h4
      exact h4
    refine wd_inj _ _ hrb hy (by rw [hyl]; rfl) ?_
    rw [wd_row4, ← h2, BitVec.toNat_ofNat, Nat.mod_eq_of_lt hlt]

/-- What k bits of a word that are turned make. -/
def low (B : BitVec 32) (k : Nat) : BitVec 32 := BitVec.ofNat 32 (B.toNat % 2 ^ k)

theorem low_zero (B : BitVec 32) : low B 0 = 0#32 := by
  unfold low
  rw [Nat.pow_zero, Nat.mod_one]

theorem mod_succ (b k : Nat) : b % 2 ^ (k + 1) = b % 2 ^ k + (b / 2 ^ k % 2) * 2 ^ k := by
  rw [Nat.pow_succ, Nat.mod_mul, Nat.mul_comm (2 ^ k)]

theorem low_one (B : BitVec 32) (k n : Nat) (hk : k < 32) (h : B.toNat / 2 ^ k % 2 = 1) (hn : k ≤ n) : stn n (low B (k + 1)) = stn n (low B k) ^^^ stn (n - k) 1#32 := by
  unfold low
  rw [mod_succ, h, Nat.one_mul, ofNat_bit _ _ (Nat.mod_lt _ (Nat.two_pow_pos k)), stn_xor]
  congr 1
  conv => lhs; rw [show n = k + (n - k) by omega]
  exact stn_pow _ _ hk

theorem low_none (B : BitVec 32) (k : Nat) (h : B.toNat / 2 ^ k % 2 = 0) : low B (k + 1) = low B k := by
  unfold low
  rw [mod_succ, h, Nat.zero_mul, Nat.add_zero]

theorem low_eq_zero (B : BitVec 32) (k : Nat) (hk : k ≤ 32) : low B k = 0#32 ↔ B.toNat % 2 ^ k = 0 := by
  unfold low
  have h2 : 2 ^ k ≤ 2 ^ 32 := Nat.pow_le_pow_right (by omega) hk
  have h1 := Nat.mod_lt B.toNat (Nat.two_pow_pos k)
  constructor
  · intro h
    have := congrArg BitVec.toNat h
    rw [BitVec.toNat_ofNat, Nat.mod_eq_of_lt (by omega)] at this
    exact this
  · intro h; rw [h]

end Crc
end Go.Proofs.Ytdhgdgcblgdefaa
