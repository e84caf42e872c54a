/- More laws of the sum of bytes: four bytes at once; a bit that is turned; three rows added. -/
import Derived.Test.YtdhgdgcblgdefaaIn
namespace Go.Proofs.Ytdhgdgcblgdefaa
namespace Crc

/-- Bytes as a number, the lowest first. -/
def wd : List Int → Nat
  | [] => 0
  | x :: l => x.toNat + 256 * wd l

theorem wd_lt : ∀ (l : List Int), Byt l → wd l < 256 ^ l.length
  | [], _ => by decide
  | x :: l, h => by
    have hx := h x (List.mem_cons_self ..)
    have hl := wd_lt l (fun y hy => h y (List.mem_cons_of_mem _ hy))
    rw [List.length_cons, Nat.pow_succ, wd]
    omega

theorem wd_inj : ∀ (l m : List Int), Byt l → Byt m → l.length = m.length → wd l = wd m → l = m
  | [], [], _, _, _, _ => rfl
  | [], _ :: _, _, _, h, _ => by cases h
  | _ :: _, [], _, _, h, _ => by cases h
  | x :: l, y :: m, hl, hm, hn, h => by
    have hx := hl x (List.mem_cons_self ..)
    have hy := hm y (List.mem_cons_self ..)
    simp only [wd] at h
    have e1 : x = y := by omega
    have e2 : wd l = wd m := by omega
    rw [e1, wd_inj l m (fun z hz => hl z (List.mem_cons_of_mem _ hz)) (fun z hz => hm z (List.mem_cons_of_mem _ hz)) (by simpa using hn) e2]

theorem ofNat_join (x q : Nat) (h : x < 256) : BitVec.ofNat 32 (x + 256 * q) = BitVec.ofNat 32 x ^^^ BitVec.ofNat 32 (q * 2 ^ 8) := by
  apply BitVec.eq_of_getLsbD_eq
  intro i hi
  rw [BitVec.getLsbD_xor, BitVec.getLsbD_ofNat, BitVec.getLsbD_ofNat, BitVec.getLsbD_ofNat, decide_eq_true hi, Bool.true_and, Bool.true_and, Bool.true_and]
  rw [show x + 256 * q = 2 ^ 8 * q + x by omega, show q * 2 ^ 8 = 2 ^ 8 * q by omega, Nat.testBit_two_pow_mul_add q (by omega : x < 2 ^ 8), Nat.testBit_two_pow_mul]
  by_cases h8 : i < 8
  · rw [if_pos h8, decide_eq_false (by omega), Bool.false_and, Bool.xor_false]
  · rw [if_neg h8, decide_eq_true (by omega), Bool.true_and, Nat.testBit_lt_two_pow (Nat.lt_of_lt_of_le (by omega : x < 2 ^ 8) (Nat.pow_le_pow_right (by omega) (by omega))), Bool.false_xor]

/-- At most four bytes, at once. -/
theorem feed : ∀ (l : List Int) (r : BitVec 32), Byt l → l.length ≤ 4 → reg r l = stn (8 * l.length) (r ^^^ BitVec.ofNat 32 (wd l))
  | [], r, _, _ => by
    show r = r ^^^ BitVec.ofNat 32 0
    exact (BitVec.xor_zero).symm
  | x :: l, r, h, hn => by
    have hx := h x (List.mem_cons_self ..)
    have hl : Byt l := fun y hy => h y (List.mem_cons_of_mem _ hy)
    rw [List.length_cons] at hn
    have hlt := wd_lt l hl
    have h4 : 256 ^ l.length ≤ 256 ^ 3 := Nat.pow_le_pow_right (by omega) (by omega)
    rw [reg_cons, feed l _ hl (by omega), List.length_cons, show 8 * (l.length + 1) = 8 + 8 * l.length by omega, stn_add]
    congr 1
    rw [wd, ofNat_join _ _ (by omega), ← BitVec.xor_assoc, stn_xor 8 (r ^^^ BitVec.ofNat 32 x.toNat), stn_even 8 _ (by omega)]
    rfl

theorem not_inj (a b : BitVec 32) (h : ~~~ a = ~~~ b) : a = b := by
  have := congrArg (fun x => ~~~ x) h
  simpa using this

theorem four_inj (s : BitVec 32) (l m : List Int) (hl : Byt l) (hm : Byt m) (nl : l.length = 4) (nm : m.length = 4) (h : on s l = on s m) : l = m := by
  unfold on at h
  have h1 := not_inj _ _ h
  rw [feed l _ hl (by omega), feed m _ hm (by omega), nl, nm] at h1
  have h2 := stn_inj _ _ _ h1
  have h3 : BitVec.ofNat 32 (wd l) = BitVec.ofNat 32 (wd m) := by
    have := congrArg (fun x => ~~~ s ^^^ x) h2
    simp only [← BitVec.xor_assoc, BitVec.xor_self, BitVec.zero_xor] at this
    exact this
  have h4 := congrArg BitVec.toNat h3
  have k1 := wd_lt l hl
  have k2 := wd_lt m hm
  rw [nl] at k1
  rw [nm] at k2
  rw [BitVec.toNat_ofNat, BitVec.toNat_ofNat, Nat.mod_eq_of_lt k1, Nat.mod_eq_of_lt k2] at h4
  exact wd_inj l m hl hm (by omega) h4

theorem wd_row4 (s : BitVec 32) : wd (row4 (s.toNat : Int)) = s.toNat := by
  simp only [row4, wd]
  omega

/-- Three rows, added bit by bit. -/
theorem reg_add3 : ∀ (a b c d : List Int), a.length = d.length → b.length = d.length → c.length = d.length →
    (∀ i, i < d.length → byt (d.getD i 0) = byt (a.getD i 0) ^^^ byt (b.getD i 0) ^^^ byt (c.getD i 0)) →
    ∀ (x y z : BitVec 32), reg (x ^^^ y ^^^ z) d = reg x a ^^^ reg y b ^^^ reg z c := by
  intro a b c d
  induction d generalizing a b c with
  | nil =>
    intro ha hb hc _ x y z
    have e1 := List.length_eq_zero_iff.1 ha
    have e2 := List.length_eq_zero_iff.1 hb
    have e3 := List.length_eq_zero_iff.1 hc
    subst e1; subst e2; subst e3
    rfl
  | cons w d ih =>
    intro ha hb hc h x y z
    cases a with
    | nil => cases ha
    | cons u a =>
    cases b with
    | nil => cases hb
    | cons v b =>
    cases c with
    | nil => cases hc
    | cons t c =>
    have h0 := h 0 (by simp)
    simp only [List.getD_cons_zero] at h0
    have h1 : one (x ^^^ y ^^^ z) w = one x u ^^^ one y v ^^^ one z t := by
      unfold one
      rw [← stn_xor, ← stn_xor, h0]
      congr 1
      ac_rfl
    rw [reg_cons, reg_cons, reg_cons, reg_cons, h1]
    refine ih a b c (by simpa using ha) (by simpa using hb) (by simpa using hc) (fun i hi => ?_) _ _ _
    have := h (i + 1) (by simpa using hi)
    simpa only [List.getD_cons_succ] using this

theorem on_add3 (a b c d : List Int) (ha : a.length = d.length) (hb : b.length = d.length) (hc : c.length = d.length)
    (h : ∀ i, i < d.length → byt (d.getD i 0) = byt (a.getD i 0) ^^^ byt (b.getD i 0) ^^^ byt (c.getD i 0)) : on 0#32 d = on 0#32 a ^^^ on 0#32 b ^^^ on 0#32 c := by
  unfold on
  have e : (~~~ 0#32) = (~~~ 0#32) ^^^ (~~~ 0#32) ^^^ (~~~ 0#32) := by decide +kernel
  have h1 := reg_add3 a b c d ha hb hc h (~~~ 0#32) (~~~ 0#32) (~~~ 0#32)
  rw [← e] at h1
  rw [h1]
  have n : ∀ x : BitVec 32, ~~~ x = BitVec.allOnes 32 ^^^ x := fun x => (BitVec.allOnes_xor).symm
  generalize reg _ a = p
  generalize reg _ b = q
  generalize reg _ c = t
  rw [n (p ^^^ q ^^^ t), n p, n q, n t]
  have e3 : BitVec.allOnes 32 = BitVec.allOnes 32 ^^^ BitVec.allOnes 32 ^^^ BitVec.allOnes 32 := by decide +kernel
  generalize BitVec.allOnes 32 = o at e3
  conv => lhs; rw [e3]
  ac_rfl

end Crc
end Go.Proofs.Ytdhgdgcblgdefaa
