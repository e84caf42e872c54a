/- The sum of bytes as a pure function of registers of 32 bits, and its laws. -/
import Derived.WalkKit
namespace Go.Proofs.Ytdhgdgcblgdefaa
namespace Crc

/-- What is added when a bit 1 falls out. -/
def poly : BitVec 32 := 3988292384#32

/-- One bit falls out. -/
def st (r : BitVec 32) : BitVec 32 := (r >>> 1) ^^^ (if r.getLsbD 0 then poly else 0#32)

theorem st_xor (a b : BitVec 32) : st (a ^^^ b) = st a ^^^ st b := by
  unfold st
  rw [BitVec.ushiftRight_xor_distrib, BitVec.getLsbD_xor]
  generalize a >>> 1 = x
  generalize b >>> 1 = y
  cases a.getLsbD 0 <;> cases b.getLsbD 0 <;> simp only [Bool.xor_self, Bool.false_eq_true, Bool.xor_true, Bool.xor_false, Bool.not_false, if_true, if_false, BitVec.xor_zero]
  · ac_rfl
  · ac_rfl
  · have h : poly ^^^ poly = 0#32 := BitVec.xor_self
    calc x ^^^ y = x ^^^ y ^^^ (poly ^^^ poly) := by rw [h, BitVec.xor_zero]
      _ = x ^^^ poly ^^^ (y ^^^ poly) := by ac_rfl

theorem st_zero : st 0#32 = 0#32 := by decide +kernel

theorem st_inj0 (a : BitVec 32) (h : st a = 0#32) : a = 0#32 := by
  have h31 : (st a).getLsbD 31 = false := by rw [h]; rfl
  have h0 : a.getLsbD 0 = false := by
    unfold st at h31
    cases e : a.getLsbD 0 with
    | false => rfl
    | true =>
      rw [e, if_pos rfl, BitVec.getLsbD_xor, BitVec.getLsbD_ushiftRight] at h31
      have hp : poly.getLsbD 31 = true := by decide +kernel
      have ha : a.getLsbD (1 + 31) = false := BitVec.getLsbD_of_ge _ _ (by omega)
      rw [hp, ha] at h31
      cases h31
  unfold st at h
  rw [h0] at h
  simp only [Bool.false_eq_true, if_false, BitVec.xor_zero] at h
  apply BitVec.eq_of_getLsbD_eq
  intro i hi
  rw [BitVec.getLsbD_zero]
  cases i with
  | zero => exact h0
  | succ i =>
    have := congrArg (fun x => BitVec.getLsbD x i) h
    simp only [BitVec.getLsbD_ushiftRight, BitVec.getLsbD_zero] at this
    rw [Nat.add_comm] at this
    exact this

/-- So many bits fall out. -/
def stn : Nat → BitVec 32 → BitVec 32
  | 0, r => r
  | n + 1, r => stn n (st r)

theorem stn_succ (n : Nat) (r : BitVec 32) : stn (n + 1) r = stn n (st r) := rfl

theorem stn_add (m n : Nat) (r : BitVec 32) : stn (m + n) r = stn n (stn m r) := by
  induction m generalizing r with
  | zero => rw [Nat.zero_add]; rfl
  | succ m ih => rw [Nat.succ_add, stn_succ, stn_succ, ih]

theorem stn_xor (n : Nat) (a b : BitVec 32) : stn n (a ^^^ b) = stn n a ^^^ stn n b := by
  induction n generalizing a b with
  | zero => rfl
  | succ n ih => rw [stn_succ, st_xor, ih]; rfl

theorem stn_zero (n : Nat) : stn n 0#32 = 0#32 := by
  induction n with
  | zero => rfl
  | succ n ih => rw [stn_succ, st_zero, ih]

theorem stn_inj0 (n : Nat) (a : BitVec 32) (h : stn n a = 0#32) : a = 0#32 := by
  induction n generalizing a with
  | zero => exact h
  | succ n ih => exact st_inj0 _ (ih _ h)

theorem xor_zero_iff (a b : BitVec 32) : a ^^^ b = 0#32 ↔ a = b := by
  constructor
  · intro h
    have : a ^^^ b ^^^ b = 0#32 ^^^ b := by rw [h]
    simpa [BitVec.xor_assoc] using this
  · intro h; rw [h, BitVec.xor_self]

theorem stn_inj (n : Nat) (a b : BitVec 32) (h : stn n a = stn n b) : a = b := by
  rw [← xor_zero_iff]
  apply stn_inj0 n
  rw [stn_xor, h, BitVec.xor_self]

/-- What has room to the left of it comes back. -/
theorem st_even (n : Nat) (h : n * 2 < 4294967296) : st (BitVec.ofNat 32 (n * 2)) = BitVec.ofNat 32 n := by
  unfold st
  have h0 : (BitVec.ofNat 32 (n * 2)).getLsbD 0 = false := by
    rw [BitVec.getLsbD_ofNat]
    simp
  rw [h0]
  simp only [Bool.false_eq_true, if_false, BitVec.xor_zero]
  apply BitVec.eq_of_toNat_eq
  rw [BitVec.toNat_ushiftRight, BitVec.toNat_ofNat, BitVec.toNat_ofNat, Nat.shiftRight_eq_div_pow, Nat.mod_eq_of_lt (by omega), Nat.mod_eq_of_lt (by omega)]
  omega

theorem stn_even (k n : Nat) (h : n * 2 ^ k < 4294967296) : stn k (BitVec.ofNat 32 (n * 2 ^ k)) = BitVec.ofNat 32 n := by
  induction k with
  | zero => simp [stn]
  | succ k ih =>
    have e : n * 2 ^ (k + 1) = (n * 2 ^ k) * 2 := by rw [Nat.pow_succ, Nat.mul_assoc]
    rw [stn_succ, e, st_even _ (by rw [← e]; exact h)]
    exact ih (by rw [e] at h; omega)

/-- The halves' table tells the same as four bits. -/
theorem half (r : BitVec 32) : (r >>> 4) ^^^ stn 4 (r &&& 15#32) = stn 4 r := by
  have h1 : stn 4 ((r >>> 4) <<< 4) = r >>> 4 := by
    have h := stn_even 4 (r.toNat / 16) (by have := r.isLt; omega)
    have e1 : BitVec.ofNat 32 (r.toNat / 16 * 2 ^ 4) = (r >>> 4) <<< 4 := by
      apply BitVec.eq_of_toNat_eq
      rw [BitVec.toNat_shiftLeft, BitVec.toNat_ushiftRight, BitVec.toNat_ofNat, Nat.shiftRight_eq_div_pow, Nat.shiftLeft_eq]
    have e2 : BitVec.ofNat 32 (r.toNat / 16) = r >>> 4 := by
      apply BitVec.eq_of_toNat_eq
      rw [BitVec.toNat_ushiftRight, BitVec.toNat_ofNat, Nat.shiftRight_eq_div_pow, Nat.mod_eq_of_lt (by have := r.isLt; omega)]
    rw [e1, e2] at h
    exact h
  have h2 : ((r >>> 4) <<< 4) ^^^ (r &&& 15#32) = r := by
    apply BitVec.eq_of_getLsbD_eq
    intro i hi
    rw [BitVec.getLsbD_xor, BitVec.getLsbD_shiftLeft, BitVec.getLsbD_ushiftRight, BitVec.getLsbD_and]
    by_cases h : i < 4
    · have : (15#32).getLsbD i = true := by
        have hh : ∀ j : Fin 4, (15#32).getLsbD j.val = true := by decide +kernel
        exact hh ⟨i, h⟩
      simp [h, this]
    · have : (15#32).getLsbD i = false := by
        have hh : ∀ j : Fin 32, ¬ j.val < 4 → (15#32).getLsbD j.val = false := by decide +kernel
        exact hh ⟨i, hi⟩ h
      have e : 4 + (i - 4) = i := by omega
      rw [this, Bool.and_false, Bool.xor_false, e, decide_eq_false h, decide_eq_true hi]
      rfl
  conv => rhs; rw [← h2]
  rw [stn_xor, h1]

/-- A byte as bits of a register. -/
def byt (x : Int) : BitVec 32 := BitVec.ofNat 32 x.toNat

/-- One byte goes through. -/
def one (r : BitVec 32) (x : Int) : BitVec 32 := stn 8 (r ^^^ byt x)

/-- Bytes go through. -/
def reg (r : BitVec 32) (l : List Int) : BitVec 32 := l.foldl one r

theorem reg_nil (r : BitVec 32) : reg r [] = r := rfl
theorem reg_cons (r : BitVec 32) (x : Int) (l : List Int) : reg r (x :: l) = reg (one r x) l := rfl
theorem reg_append (r : BitVec 32) (l m : List Int) : reg r (l ++ m) = reg (reg r l) m := List.foldl_append

/-- To go on from a sum. -/
def on (s : BitVec 32) (l : List Int) : BitVec 32 := ~~~ (reg (~~~ s) l)

theorem on_append (s : BitVec 32) (l m : List Int) : on s (l ++ m) = on (on s l) m := by
  unfold on
  rw [reg_append, BitVec.not_not]

theorem on_nil (s : BitVec 32) : on s [] = s := by
  unfold on
  rw [reg_nil, BitVec.not_not]

theorem reg_xor (r s : BitVec 32) (l : List Int) : reg (r ^^^ s) l = reg r l ^^^ stn (8 * l.length) s := by
  induction l generalizing r s with
  | nil => rfl
  | cons x l ih =>
    have h : one (r ^^^ s) x = one r x ^^^ stn 8 s := by
      unfold one
      rw [← stn_xor]
      congr 1
      ac_rfl
    rw [reg_cons, reg_cons, h, ih, ← stn_add, List.length_cons]
    congr 2
    omega

end Crc
end Go.Proofs.Ytdhgdgcblgdefaa
