/- A block of 64 times the same byte, tied in again and again: by numbers that the kernel reckons. -/
import Derived.Test.YtopgjeakkpedlaaDoorPu
namespace Go.Proofs.YtopgjeakkpedlaaDoor
set_option linter.unusedVariables false

namespace Mil
def sg0 (x : Nat) : Nat := Nat.xor (Nat.xor (Nat.shiftRight (Nat.mul x (nat_lit 4294967297)) (nat_lit 2)) (Nat.shiftRight (Nat.mul x (nat_lit 4294967297)) (nat_lit 13))) (Nat.shiftRight (Nat.mul x (nat_lit 4294967297)) (nat_lit 22))
def sg1 (x : Nat) : Nat := Nat.xor (Nat.xor (Nat.shiftRight (Nat.mul x (nat_lit 4294967297)) (nat_lit 6)) (Nat.shiftRight (Nat.mul x (nat_lit 4294967297)) (nat_lit 11))) (Nat.shiftRight (Nat.mul x (nat_lit 4294967297)) (nat_lit 25))
def m32 (x : Nat) : Nat := Nat.mod x (nat_lit 4294967296)
/-- What is added, packed into one number. -/
def fin8 (s a b c d e f g h : Nat) : Nat := Nat.add (Nat.mod (Nat.add s a) (nat_lit 4294967296)) (Nat.mul (nat_lit 4294967296) (Nat.add (Nat.mod (Nat.add (Nat.shiftRight s (nat_lit 32)) b) (nat_lit 4294967296)) (Nat.mul (nat_lit 4294967296) (Nat.add (Nat.mod (Nat.add (Nat.shiftRight s (nat_lit 64)) c) (nat_lit 4294967296)) (Nat.mul (nat_lit 4294967296) (Nat.add (Nat.mod (Nat.add (Nat.shiftRight s (nat_lit 96)) d) (nat_lit 4294967296)) (Nat.mul (nat_lit 4294967296) (Nat.add (Nat.mod (Nat.add (Nat.shiftRight s (nat_lit 128)) e) (nat_lit 4294967296)) (Nat.mul (nat_lit 4294967296) (Nat.add (Nat.mod (Nat.add (Nat.shiftRight s (nat_lit 160)) f) (nat_lit 4294967296)) (Nat.mul (nat_lit 4294967296) (Nat.add (Nat.mod (Nat.add (Nat.shiftRight s (nat_lit 192)) g) (nat_lit 4294967296)) (Nat.mul (nat_lit 4294967296) (Nat.mod (Nat.add (Nat.shiftRight s (nat_lit 224)) h) (nat_lit 4294967296)))))))))))))))
/-- The rounds; kw: a word and its K, summed. -/
def go (s : Nat) : List Nat → Nat → Nat → Nat → Nat → Nat → Nat → Nat → Nat → Nat → Nat
  | [], a, b, c, d, e, f, g, h, _ => fin8 s a b c d e f g h
  | kw :: l, a, b, c, d, e, f, g, h, p =>
    (fun t q => go s l (Nat.mod (Nat.add (Nat.add t (sg0 a)) (Nat.xor b (Nat.land q p))) (nat_lit 4294967296)) a b c (Nat.mod (Nat.add d t) (nat_lit 4294967296)) e f g q)
      (Nat.add (Nat.add h kw) (Nat.add (sg1 e) (Nat.xor g (Nat.land e (Nat.xor f g))))) (Nat.xor a b)
/-- Words and K, summed, of 64 bytes 97. -/
def KW : List Nat := [nat_lit 2750124281, nat_lit 3533219314, nat_lit 388128048, nat_lit 1259814150, nat_lit 2595759036, nat_lit 3142742866, nat_lit 4087407621, nat_lit 209567798, nat_lit 963185657, nat_lit 1944370274, nat_lit 2240997151, nat_lit 3060653860, nat_lit 3558850261, nat_lit 3795850079, nat_lit 4248659976, nat_lit 587027157, nat_lit 3667503101, nat_lit 3854337474, nat_lit 1109373709, nat_lit 1449834259, nat_lit 1332383432, nat_lit 1811277571, nat_lit 1402599420, nat_lit 41923541, nat_lit 356419487, nat_lit 2728937732, nat_lit 4167673427, nat_lit 1780128268, nat_lit 3506461443, nat_lit 1927923708, nat_lit 3100717738, nat_lit 957412701, nat_lit 3211936012, nat_lit 2525724465, nat_lit 897656708, nat_lit 2750766458, nat_lit 3733122911, nat_lit 1490448492, nat_lit 1007131835, nat_lit 215170638, nat_lit 199900175, nat_lit 3051847127, nat_lit 2546784594, nat_lit 1198467073, nat_lit 1121424104, nat_lit 1993824782, nat_lit 4206943767, nat_lit 1385611443, nat_lit 2838015846, nat_lit 320495253, nat_lit 2870002303, nat_lit 616322403, nat_lit 3868675357, nat_lit 810932918, nat_lit 4192983651, nat_lit 4114851946, nat_lit 2567787456, nat_lit 3518289627, nat_lit 3043469264, nat_lit 3431775655, nat_lit 2875437985, nat_lit 3700493388, nat_lit 2838780141, nat_lit 3572068108]
def blk (s : Nat) : Nat := go s KW (m32 s) (m32 (Nat.shiftRight s (nat_lit 32))) (m32 (Nat.shiftRight s (nat_lit 64))) (m32 (Nat.shiftRight s (nat_lit 96))) (m32 (Nat.shiftRight s (nat_lit 128))) (m32 (Nat.shiftRight s (nat_lit 160))) (m32 (Nat.shiftRight s (nat_lit 192))) (m32 (Nat.shiftRight s (nat_lit 224))) (Nat.xor (m32 (Nat.shiftRight s (nat_lit 32))) (m32 (Nat.shiftRight s (nat_lit 64))))
def force (x : Nat) (k : Nat → Nat) : Nat :=
  match x with
  | 0 => k 0
  | m + 1 => k (Nat.succ m)
def run (B : Nat → Nat) : Nat → Nat → Nat
  | 0, s => s
  | n + 1, s => force (B s) (run B n)
end Mil

theorem force_eq (x : Nat) (k : Nat → Nat) : Mil.force x k = k x := by
  cases x <;> rfl
theorem run_succ (B : Nat → Nat) (n s : Nat) : Mil.run B (n + 1) s = Mil.run B n (B s) := force_eq _ _

namespace Sha
/-- The words, packed into one number. -/
def pk (r : R) : Nat := r.a.toNat + 4294967296 * (r.b.toNat + 4294967296 * (r.c.toNat + 4294967296 * (r.d.toNat + 4294967296 * (r.e.toNat + 4294967296 * (r.f.toNat + 4294967296 * (r.g.toNat + 4294967296 * r.h.toNat))))))
def un (p : Nat) : R := ⟨BitVec.ofNat 32 (p / 1), BitVec.ofNat 32 (p / 4294967296), BitVec.ofNat 32 (p / 18446744073709551616), BitVec.ofNat 32 (p / 79228162514264337593543950336), BitVec.ofNat 32 (p / 340282366920938463463374607431768211456), BitVec.ofNat 32 (p / 1461501637330902918203684832716283019655932542976), BitVec.ofNat 32 (p / 6277101735386680763835789423207666416102355444464034512896), BitVec.ofNat 32 (p / 26959946667150639794667015087019630673637144422540572481103610249216)⟩
def onceS (r : R) (kw : BitVec 32) : R := ⟨(r.h + S1 r.e + ch r.e r.f r.g + kw) + tU r, r.a, r.b, r.c, r.d + (r.h + S1 r.e + ch r.e r.f r.g + kw), r.e, r.f, r.g⟩
end Sha

theorem rot_mod (x : BitVec 32) (n : Nat) (h0 : 0 < n) (h1 : n < 32) : (x.toNat * 4294967297) >>> n % 4294967296 = (Sha.rr x n).toNat := by
  have e : x.toNat * 4294967297 = x.toNat <<< 32 ||| x.toNat := by
    rw [← Nat.shiftLeft_add_eq_or_of_lt x.isLt, Nat.shiftLeft_eq]; omega
  rw [e]
  refine Nat.eq_of_testBit_eq fun i => ?_
  rw [show (4294967296 : Nat) = 2 ^ 32 from rfl, Nat.testBit_mod_two_pow, Nat.testBit_shiftRight, Nat.testBit_or, Nat.testBit_shiftLeft, BitVec.testBit_toNat, BitVec.testBit_toNat, BitVec.testBit_toNat, Sha.rr, BitVec.getLsbD_or, BitVec.getLsbD_shiftLeft, BitVec.getLsbD_ushiftRight]
  by_cases hi : i < 32
  · by_cases hj : i < 32 - n
    · have e1 : ¬ (32 ≤ n + i) := by omega
      simp [hi, hj, e1]
    · have e1 : 32 ≤ n + i := by omega
      have e2 : n + i - 32 = i - (32 - n) := by omega
      simp [hi, hj, e1, e2]
  · have e1 : x.getLsbD (n + i) = false := BitVec.getLsbD_of_ge _ _ (by omega)
    simp [hi, e1]

theorem sg0_mod (x : BitVec 32) : Mil.sg0 x.toNat % 4294967296 = (Sha.S0 x).toNat := by
  show ((x.toNat * 4294967297) >>> 2 ^^^ (x.toNat * 4294967297) >>> 13 ^^^ (x.toNat * 4294967297) >>> 22) % 2 ^ 32 = _
  rw [Nat.xor_mod_two_pow, Nat.xor_mod_two_pow, show (2 : Nat) ^ 32 = 4294967296 from rfl, rot_mod x 2 (by decide) (by decide), rot_mod x 13 (by decide) (by decide), rot_mod x 22 (by decide) (by decide), Sha.S0, BitVec.toNat_xor, BitVec.toNat_xor]
theorem sg1_mod (x : BitVec 32) : Mil.sg1 x.toNat % 4294967296 = (Sha.S1 x).toNat := by
  show ((x.toNat * 4294967297) >>> 6 ^^^ (x.toNat * 4294967297) >>> 11 ^^^ (x.toNat * 4294967297) >>> 25) % 2 ^ 32 = _
  rw [Nat.xor_mod_two_pow, Nat.xor_mod_two_pow, show (2 : Nat) ^ 32 = 4294967296 from rfl, rot_mod x 6 (by decide) (by decide), rot_mod x 11 (by decide) (by decide), rot_mod x 25 (by decide) (by decide), Sha.S1, BitVec.toNat_xor, BitVec.toNat_xor]
theorem ch_alt (e f g : BitVec 32) : g ^^^ (e &&& (f ^^^ g)) = Sha.ch e f g := by
  unfold Sha.ch
  ext i hi
  simp only [BitVec.getElem_xor, BitVec.getElem_and, BitVec.getElem_or, BitVec.getElem_not]
  cases e[i] <;> cases f[i] <;> cases g[i] <;> rfl
theorem mj_alt (a b c : BitVec 32) : b ^^^ ((a ^^^ b) &&& (b ^^^ c)) = Sha.mj a b c := by
  unfold Sha.mj
  ext i hi
  simp only [BitVec.getElem_xor, BitVec.getElem_and, BitVec.getElem_or]
  cases a[i] <;> cases b[i] <;> cases c[i] <;> rfl
theorem ch_nat (e f g : BitVec 32) : Nat.xor g.toNat (Nat.land e.toNat (Nat.xor f.toNat g.toNat)) = (Sha.ch e f g).toNat := by
  rw [← ch_alt, BitVec.toNat_xor, BitVec.toNat_and, BitVec.toNat_xor]; rfl
theorem mj_nat (a b c : BitVec 32) : Nat.xor b.toNat (Nat.land (Nat.xor a.toNat b.toNat) (Nat.xor b.toNat c.toNat)) = (Sha.mj a b c).toNat := by
  rw [← mj_alt, BitVec.toNat_xor, BitVec.toNat_and, BitVec.toNat_xor, BitVec.toNat_xor]; rfl

theorem once_e (r : Sha.R) (kw : BitVec 32) : Nat.mod (Nat.add r.d.toNat (Nat.add (Nat.add r.h.toNat kw.toNat) (Nat.add (Mil.sg1 r.e.toNat) (Nat.xor r.g.toNat (Nat.land r.e.toNat (Nat.xor r.f.toNat r.g.toNat)))))) (nat_lit 4294967296) = (Sha.onceS r kw).e.toNat := by
  rw [ch_nat]
  have h1 := sg1_mod r.e
  show (r.d.toNat + ((r.h.toNat + kw.toNat) + (Mil.sg1 r.e.toNat + (Sha.ch r.e r.f r.g).toNat))) % 4294967296 = (r.d + (r.h + Sha.S1 r.e + Sha.ch r.e r.f r.g + kw)).toNat
  simp only [BitVec.toNat_add]
  generalize Mil.sg1 r.e.toNat = x at *
  generalize (Sha.S1 r.e).toNat = y at *
  omega
theorem once_a (r : Sha.R) (kw : BitVec 32) : Nat.mod (Nat.add (Nat.add (Nat.add (Nat.add r.h.toNat kw.toNat) (Nat.add (Mil.sg1 r.e.toNat) (Nat.xor r.g.toNat (Nat.land r.e.toNat (Nat.xor r.f.toNat r.g.toNat))))) (Mil.sg0 r.a.toNat)) (Nat.xor r.b.toNat (Nat.land (Nat.xor r.a.toNat r.b.toNat) (Nat.xor r.b.toNat r.c.toNat)))) (nat_lit 4294967296) = (Sha.onceS r kw).a.toNat := by
  rw [ch_nat, mj_nat]
  have h1 := sg1_mod r.e
  have h0 := sg0_mod r.a
  show (((r.h.toNat + kw.toNat) + (Mil.sg1 r.e.toNat + (Sha.ch r.e r.f r.g).toNat)) + Mil.sg0 r.a.toNat + (Sha.mj r.a r.b r.c).toNat) % 4294967296 = ((r.h + Sha.S1 r.e + Sha.ch r.e r.f r.g + kw) + (Sha.S0 r.a + Sha.mj r.a r.b r.c)).toNat
  simp only [BitVec.toNat_add]
  generalize Mil.sg1 r.e.toNat = x at *
  generalize (Sha.S1 r.e).toNat = y at *
  generalize Mil.sg0 r.a.toNat = u at *
  generalize (Sha.S0 r.a).toNat = v at *
  omega

theorem go_eq (s : Nat) : ∀ (l : List (BitVec 32)) (r : Sha.R), Mil.go s (l.map (·.toNat)) r.a.toNat r.b.toNat r.c.toNat r.d.toNat r.e.toNat r.f.toNat r.g.toNat r.h.toNat (Nat.xor r.b.toNat r.c.toNat) = (fun q : Sha.R => Mil.fin8 s q.a.toNat q.b.toNat q.c.toNat q.d.toNat q.e.toNat q.f.toNat q.g.toNat q.h.toNat) (l.foldl Sha.onceS r)
  | [], r => rfl
  | kw :: l, r => by
    rw [List.foldl_cons, ← go_eq s l (Sha.onceS r kw), List.map_cons]
    rw [← once_a r kw, ← once_e r kw]
    rfl

theorem onceS_eq (r : Sha.R) (k w : BitVec 32) : Sha.onceS r (k + w) = Sha.once r k w := by
  unfold Sha.onceS Sha.once Sha.tT
  simp only [BitVec.add_assoc]
theorem times_fold (K W : List (BitVec 32)) (r : Sha.R) : ∀ n, n ≤ K.length → n ≤ W.length → ((List.zipWith (· + ·) K W).take n).foldl Sha.onceS r = Sha.times K W r n
  | 0, _, _ => rfl
  | n + 1, h1, h2 => by
    have hl : n < (List.zipWith (· + ·) K W).length := by rw [List.length_zipWith]; omega
    rw [List.take_succ_eq_append_getElem hl, List.foldl_append, times_fold K W r n (by omega) (by omega), List.foldl_cons, List.foldl_nil, List.getElem_zipWith, onceS_eq, Sha.times]
    unfold Sha.at_
    rw [List.getD_eq_getElem?_getD, List.getD_eq_getElem?_getD, List.getElem?_eq_getElem (by omega), List.getElem?_eq_getElem (by omega)]
    rfl

/-- 64 bytes 97. -/
def Sha.A64 : List Int := List.replicate 64 97
theorem KW_eq : (List.zipWith (· + ·) Sha.K (Sha.spread Sha.A64)).map (·.toNat) = Mil.KW := by decide +kernel

theorem pk_part (r : Sha.R) : Mil.m32 (Nat.shiftRight (Sha.pk r) 32) = r.b.toNat ∧ Mil.m32 (Nat.shiftRight (Sha.pk r) 64) = r.c.toNat ∧ Mil.m32 (Nat.shiftRight (Sha.pk r) 96) = r.d.toNat ∧ Mil.m32 (Nat.shiftRight (Sha.pk r) 128) = r.e.toNat ∧ Mil.m32 (Nat.shiftRight (Sha.pk r) 160) = r.f.toNat ∧ Mil.m32 (Nat.shiftRight (Sha.pk r) 192) = r.g.toNat ∧ Mil.m32 (Nat.shiftRight (Sha.pk r) 224) = r.h.toNat ∧ Mil.m32 (Sha.pk r) = r.a.toNat := by
  have := r.a.isLt; have := r.b.isLt; have := r.c.isLt; have := r.d.isLt; have := r.e.isLt; have := r.f.isLt; have := r.g.isLt; have := r.h.isLt
  have sr : ∀ x n, Nat.shiftRight x n = x / 2 ^ n := fun x n => Nat.shiftRight_eq_div_pow x n
  simp only [sr]
  show Sha.pk r / 2 ^ 32 % 4294967296 = r.b.toNat ∧ Sha.pk r / 2 ^ 64 % 4294967296 = r.c.toNat ∧ Sha.pk r / 2 ^ 96 % 4294967296 = r.d.toNat ∧ Sha.pk r / 2 ^ 128 % 4294967296 = r.e.toNat ∧ Sha.pk r / 2 ^ 160 % 4294967296 = r.f.toNat ∧ Sha.pk r / 2 ^ 192 % 4294967296 = r.g.toNat ∧ Sha.pk r / 2 ^ 224 % 4294967296 = r.h.toNat ∧ Sha.pk r % 4294967296 = r.a.toNat
  unfold Sha.pk
  generalize r.a.toNat = a at *
  generalize r.b.toNat = b at *
  generalize r.c.toNat = c at *
  generalize r.d.toNat = d at *
  generalize r.e.toNat = e at *
  generalize r.f.toNat = f at *
  generalize r.g.toNat = g at *
  generalize r.h.toNat = h at *
  refine ⟨?_, ?_, ?_, ?_, ?_, ?_, ?_, ?_⟩ <;> omega

/-- How often it is tied in. -/
def Sha.it : Nat → Sha.R
  | 0 => Sha.H
  | k + 1 => Sha.tie Sha.K (Sha.it k) Sha.A64

theorem fin8_pk (r q : Sha.R) : Mil.fin8 (Sha.pk r) q.a.toNat q.b.toNat q.c.toNat q.d.toNat q.e.toNat q.f.toNat q.g.toNat q.h.toNat = Sha.pk (Sha.sum r q) := by
  have := r.a.isLt; have := r.b.isLt; have := r.c.isLt; have := r.d.isLt; have := r.e.isLt; have := r.f.isLt; have := r.g.isLt; have := r.h.isLt
  have sr : ∀ x n, Nat.shiftRight x n = x / 2 ^ n := fun x n => Nat.shiftRight_eq_div_pow x n
  have ea : Sha.pk r % 4294967296 = r.a.toNat := (pk_part r).2.2.2.2.2.2.2
  obtain ⟨e1, e2, e3, e4, e5, e6, e7, _⟩ := pk_part r
  have one : ∀ (x y z : Nat), Mil.m32 x = y → Nat.mod (Nat.add x z) (nat_lit 4294967296) = (y + z) % 4294967296 := fun x y z h => by
    show (x + z) % 4294967296 = _
    have h' : x % 4294967296 = y := h
    omega
  unfold Mil.fin8
  rw [one _ _ _ e1, one _ _ _ e2, one _ _ _ e3, one _ _ _ e4, one _ _ _ e5, one _ _ _ e6, one _ _ _ e7, one _ _ _ (show Mil.m32 (Sha.pk r) = r.a.toNat from ea)]
  unfold Sha.sum
  show _ = Sha.pk _
  unfold Sha.pk
  simp only [BitVec.toNat_add]
  rfl

theorem blk_eq (r : Sha.R) : Mil.blk (Sha.pk r) = Sha.pk (Sha.tie Sha.K r Sha.A64) := by
  obtain ⟨e1, e2, e3, e4, e5, e6, e7, e0⟩ := pk_part r
  unfold Mil.blk
  rw [← KW_eq, e0, e1, e2, e3, e4, e5, e6, e7, go_eq]
  have hf := times_fold Sha.K (Sha.spread Sha.A64) r 64 (Nat.le_refl _) (by rw [Sha.spread_len]; exact Nat.le_refl _)
  rw [List.take_of_length_le (by rw [List.length_zipWith, Sha.spread_len]; exact Nat.min_le_right _ _)] at hf
  rw [hf]
  exact fin8_pk r _

theorem run_it (n : Nat) : ∀ k, Mil.run Mil.blk n (Sha.pk (Sha.it k)) = Sha.pk (Sha.it (k + n)) := by
  induction n with
  | zero => intro k; rfl
  | succ n ih => intro k; rw [run_succ, blk_eq, show k + (n + 1) = (k + 1) + n by omega]; exact ih (k + 1)

theorem un_pk (r : Sha.R) : Sha.un (Sha.pk r) = r := by
  obtain ⟨a, b, c, d, e, f, g, h⟩ := r
  have := a.isLt; have := b.isLt; have := c.isLt; have := d.isLt; have := e.isLt; have := f.isLt; have := g.isLt; have := h.isLt
  unfold Sha.un Sha.pk
  simp only [Sha.R.mk.injEq]
  refine ⟨?_, ?_, ?_, ?_, ?_, ?_, ?_, ?_⟩ <;> (apply BitVec.eq_of_toNat_eq; rw [BitVec.toNat_ofNat]; omega)
end Go.Proofs.YtopgjeakkpedlaaDoor
