/- Roots by numbers of digits, as the document's answer reckons them: pure functions. -/
import Derived.Test.YteefpbeglmnilaaDoorRw
namespace Go.Proofs.YteefpbeglmnilaaDoor
open Go.RowKit
set_option linter.unusedVariables false

namespace Ref
def at_ (l : List Nat) (i : Nat) : Nat := l.getD i 0
/-- A word of 64 bits. -/
def m64 (x : Nat) : Nat := x % 18446744073709551616
def p1 (o : List Nat) (i x y : Nat) : List Nat := o.set i (m64 (at_ o i + m64 (x * y)))
def put3 (o : List Nat) (i x lo mi hi : Nat) : List Nat := p1 (p1 (p1 o i x lo) (i + 1) x mi) (i + 2) x hi
/-- The digits' products, behind i digits. -/
def m1 (a : List Nat) (n : Nat) : Nat → List Nat
  | 0 => List.replicate (a.length + 3) 0
  | i + 1 => put3 (m1 a n i) i (at_ a i) (n % 65536) (n / 65536 % 65536) (n / 4294967296)
def cy1 (o : List Nat) (i : Nat) : List Nat := o.set (i + 1) (m64 (at_ o (i + 1) + at_ o i / 65536))
def cy2 (o : List Nat) (i : Nat) : List Nat := o.set i (at_ o i % 65536)
/-- What is carried, behind i digits. -/
def c1 (o : List Nat) : Nat → List Nat
  | 0 => o
  | i + 1 => cy2 (cy1 (c1 o i) i) i
def times (a : List Nat) (n : Nat) : List Nat := c1 (m1 a n a.length) (a.length + 2)
/-- The first i digits: at most those of b? -/
def cmp (a b : List Nat) : Nat → Bool
  | 0 => true
  | i + 1 => if at_ a i = at_ b i then cmp a b i else decide (at_ a i < at_ b i)
def atM (a : List Nat) (p k : Nat) : Bool := cmp a ((List.replicate a.length 0).set k p) a.length
def pw (y : Nat) : Nat → List Nat
  | 0 => [1]
  | k + 1 => times (pw y k) y
/-- The root behind j rounds. -/
def rx (p n : Nat) : Nat → Nat
  | 0 => 0
  | j + 1 => if atM (pw (rx p n j + 2 ^ (35 - j)) n) p (2 * n) = true then rx p n j + 2 ^ (35 - j) else rx p n j
def root (p n : Nat) : Nat := rx p n 36 % 4294967296
/-- Is none from k on a divisor, as far as the root? -/
def nod (x : Nat) : Nat → Nat → Bool
  | _, 0 => true
  | k, f + 1 => if x < k * k then true else if x % k = 0 then false else nod x (k + 1) f
def isP (x : Nat) : Bool := nod x 2 30
end Ref

theorem isP_all : ∀ k : Fin 310, Ref.isP (k.val + 2) = Sha.chk (Sha.ps k.val) (k.val + 2) := by decide +kernel
theorem ps_at : ∀ k : Fin 310, Sha.chk (Sha.ps k.val) (k.val + 2) = true → (Sha.ps 310).getD (Sha.ps k.val).length 0 = k.val + 2 := by decide +kernel

theorem rxle (p n : Nat) : ∀ j, j ≤ 36 → Ref.rx p n j + 2 ^ (36 - j) ≤ 2 ^ 36 := by
  intro j
  induction j with
  | zero => intro _; simp [Ref.rx]
  | succ j ih =>
    intro h
    have h1 := ih (by omega)
    have e : 2 ^ (36 - j) = 2 * 2 ^ (35 - j) := by rw [show 36 - j = (35 - j) + 1 by omega, Nat.pow_succ]; omega
    have e2 : 36 - (j + 1) = 35 - j := by omega
    rw [Ref.rx, e2]
    split <;> omega

/-- Numbers of 64 bits as cells. -/
def qv (l : List Nat) : List Value := l.map fun (x : Nat) => Value.int .u64 (x : Int)
theorem qv_len (l : List Nat) : (qv l).length = l.length := by simp [qv]
theorem qv_set (l : List Nat) (i x : Nat) : (qv l).set i (.int .u64 (x : Int)) = qv (l.set i x) := by simp [qv, List.map_set]
theorem qv_get (l : List Nat) (i : Nat) (hi : i < l.length) : (qv l)[i]? = some (.int .u64 ((Ref.at_ l i : Nat) : Int)) := by
  rw [qv, List.getElem?_map, List.getElem?_eq_getElem hi, Ref.at_, List.getD_eq_getElem?_getD, List.getElem?_eq_getElem hi]
  rfl
theorem p1_len (o : List Nat) (i x y : Nat) : (Ref.p1 o i x y).length = o.length := by simp [Ref.p1]
theorem m1_len (a : List Nat) (n : Nat) : ∀ i, (Ref.m1 a n i).length = a.length + 3
  | 0 => by simp [Ref.m1]
  | i + 1 => by simp [Ref.m1, Ref.put3, p1_len, m1_len a n i]
theorem c1_len (o : List Nat) : ∀ i, (Ref.c1 o i).length = o.length
  | 0 => rfl
  | i + 1 => by simp [Ref.c1, Ref.cy1, Ref.cy2, c1_len o i]
theorem times_len (a : List Nat) (n : Nat) : (Ref.times a n).length = a.length + 3 := by rw [Ref.times, c1_len, m1_len]

/-- All are words of 64 bits. -/
def W64 (l : List Nat) : Prop := ∀ i, Ref.at_ l i < 18446744073709551616
theorem at_set (l : List Nat) (i j x : Nat) : Ref.at_ (l.set i x) j = if i = j ∧ j < l.length then x else Ref.at_ l j := by
  unfold Ref.at_
  rw [List.getD_eq_getElem?_getD, List.getD_eq_getElem?_getD, List.getElem?_set]
  by_cases h : i = j
  · subst h
    by_cases hl : i < l.length
    · simp [hl]
    · simp [hl]
  · simp [h]
theorem W64.set {l : List Nat} (h : W64 l) (i x : Nat) (hx : x < 18446744073709551616) : W64 (l.set i x) := fun j => by
  rw [at_set]; split
  · exact hx
  · exact h j
theorem W64.zeros (n : Nat) : W64 (List.replicate n 0) := fun i => by
  unfold Ref.at_
  rw [List.getD_eq_getElem?_getD, List.getElem?_replicate]
  split <;> decide
theorem m64_lt (x : Nat) : Ref.m64 x < 18446744073709551616 := Nat.mod_lt _ (by decide)
theorem W64.p1 {o : List Nat} (h : W64 o) (i x y : Nat) : W64 (Ref.p1 o i x y) := h.set _ _ (m64_lt _)
theorem W64.m1 (a : List Nat) (n : Nat) : ∀ i, W64 (Ref.m1 a n i)
  | 0 => W64.zeros _
  | i + 1 => by rw [Ref.m1, Ref.put3]; exact (((W64.m1 a n i).p1 _ _ _).p1 _ _ _).p1 _ _ _
theorem W64.cy1 {o : List Nat} (h : W64 o) (i : Nat) : W64 (Ref.cy1 o i) := h.set _ _ (m64_lt _)
theorem W64.cy2 {o : List Nat} (h : W64 o) (i : Nat) : W64 (Ref.cy2 o i) := h.set _ _ (by omega)
theorem W64.c1 {o : List Nat} (h : W64 o) : ∀ i, W64 (Ref.c1 o i)
  | 0 => h
  | i + 1 => by rw [Ref.c1]; exact ((W64.c1 h i).cy1 i).cy2 i
theorem W64.times (a : List Nat) (n : Nat) : W64 (Ref.times a n) := (W64.m1 a n _).c1 _
theorem pw_len (y : Nat) : ∀ k, (Ref.pw y k).length = 3 * k + 1
  | 0 => rfl
  | k + 1 => by rw [Ref.pw, times_len, pw_len y k]; omega
theorem W64.pw (y : Nat) : ∀ k, W64 (Ref.pw y k)
  | 0 => fun i => by
    unfold Ref.at_ Ref.pw
    match i with
    | 0 => decide
    | i + 1 => show List.getD [] i 0 < _; simp
  | k + 1 => by rw [Ref.pw]; exact W64.times _ _

theorem madd (x y : Nat) : IntKind.u64.wrap ((x : Int) + (y : Int)) = ((Ref.m64 (x + y) : Nat) : Int) := by
  rw [IntKind.wrap_u64, Ref.m64]; omega
theorem mmul (x y : Nat) : IntKind.u64.wrap ((x : Int) * (y : Int)) = ((Ref.m64 (x * y) : Nat) : Int) := by
  rw [IntKind.wrap_u64, Ref.m64, ← Int.natCast_mul]; omega
theorem mlow (x : Nat) (h : x < 18446744073709551616) : bits .and .u64 (x : Int) 65535 = ((x % 65536 : Nat) : Int) := by
  have e := u64_and_nat x 65535 h (by decide)
  rw [show (65535 : Nat) = 2 ^ 16 - 1 from rfl, Nat.and_two_pow_sub_one_eq_mod] at e
  exact e
theorem mshr (x : Nat) (s : Nat) : (x : Int) / ((2 ^ s : Nat) : Int) = ((x / 2 ^ s : Nat) : Int) := (Int.natCast_ediv x (2 ^ s)).symm

end Go.Proofs.YteefpbeglmnilaaDoor
