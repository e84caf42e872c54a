/- Labels' parts as registers of 32 bits: which flows to which, joins and meets; pure. -/
import Derived.Test.YtcgimbomandjfaaWb
namespace Go.Proofs.Ytcgimbomandjfaa
open Go.RowKit
set_option linter.unusedVariables false

/-- Each bit of p that is 1 is so in q. -/
def sub (p q : BitVec 32) : Bool := (p &&& ~~~q) == 0#32

theorem sub_iff (p q : BitVec 32) : sub p q = true ↔ ∀ i, i < 32 → p.getLsbD i = true → q.getLsbD i = true := by
  unfold sub
  rw [beq_iff_eq]
  constructor
  · intro h i hi hp
    have e : (p &&& ~~~q).getLsbD i = (0#32).getLsbD i := by rw [h]
    rw [BitVec.getLsbD_and, BitVec.getLsbD_not, hp] at e
    simpa [hi] using e
  · intro h
    apply BitVec.eq_of_getLsbD_eq
    intro i hi
    rw [BitVec.getLsbD_and, BitVec.getLsbD_not]
    have := h i hi
    cases hp : p.getLsbD i
    · simp
    · simp [this hp]

/-- A number of 32 bits is a register. -/
theorem regOf (s : Int) (h0 : 0 ≤ s) (h1 : s < 4294967296) : ∃ r : BitVec 32, s = (r.toNat : Int) := by
  refine ⟨BitVec.ofNat 32 s.toNat, ?_⟩
  rw [BitVec.toNat_ofNat, Nat.mod_eq_of_lt (by omega)]
  omega

theorem band (a b : BitVec 32) : bits .and .u32 (a.toNat : Int) (b.toNat : Int) = ((a &&& b).toNat : Int) := by
  rw [u32_and_nat _ _ a.isLt b.isLt, BitVec.toNat_and]
theorem bor (a b : BitVec 32) : bits .or .u32 (a.toNat : Int) (b.toNat : Int) = ((a ||| b).toNat : Int) := by
  rw [u32_or_nat _ _ a.isLt b.isLt, BitVec.toNat_or]
theorem bandNot (a b : BitVec 32) : bits .andNot .u32 (a.toNat : Int) (b.toNat : Int) = ((a &&& ~~~b).toNat : Int) := by
  rw [u32_andNot_nat _ _ a.isLt b.isLt, BitVec.toNat_and, BitVec.toNat_not]
theorem bandNot0 (a b : BitVec 32) : (bits .andNot .u32 (a.toNat : Int) (b.toNat : Int) == 0) = sub a b := by
  rw [bandNot]
  unfold sub
  by_cases h : (a &&& ~~~b) = 0#32
  · rw [h]; rfl
  · rw [show ((a &&& ~~~b) == 0#32) = false from beq_eq_false_iff_ne.2 h, beq_eq_false_iff_ne]
    intro e
    apply h
    apply BitVec.eq_of_toNat_eq
    have : (a &&& ~~~b).toNat = 0 := by omega
    rw [this]
    rfl

/-- Which flows to which, of labels that may be. -/
def fl (x : Int) (p : BitVec 32) (y : Int) (q : BitVec 32) : Bool := decide (x ≤ y) && sub p q

theorem fl_iff (x : Int) (p : BitVec 32) (y : Int) (q : BitVec 32) : fl x p y q = true ↔ x ≤ y ∧ ∀ i, i < 32 → p.getLsbD i = true → q.getLsbD i = true := by
  unfold fl
  rw [Bool.and_eq_true, decide_eq_true_eq, sub_iff]

theorem ok_of {x : Int} (h : 0 ≤ x ∧ x ≤ 7) : okL x = true := by
  unfold okL
  rw [decide_eq_true h.1, decide_eq_true h.2]
  rfl

theorem flows_b {x y : Int} (p q : BitVec 32) (hx : 0 ≤ x ∧ x ≤ 7) (hy : 0 ≤ y ∧ y ≤ 7) (w : World) :
    Calls Try.prog 11 #[.agg #[.int .i64 x, .int .u32 (p.toNat : Int)], .agg #[.int .i64 y, .int .u32 (q.toNat : Int)]] w fun e w' => VEnd w (.bool (fl x p y q)) e w' :=
  flows_is _ _ _ _ w _ (by rw [bandNot0, ok_of hx, ok_of hy]; rfl)
theorem meet_b {x y : Int} (p q : BitVec 32) (hx : 0 ≤ x ∧ x ≤ 7) (hy : 0 ≤ y ∧ y ≤ 7) (w : World) :
    Calls Try.prog 15 #[.agg #[.int .i64 x, .int .u32 (p.toNat : Int)], .agg #[.int .i64 y, .int .u32 (q.toNat : Int)]] w fun e w' => VEnd w (.agg #[.int .i64 (min x y), .int .u32 ((p &&& q).toNat : Int)]) e w' :=
  meet_is _ _ _ _ w _ _ (by rw [ok_of hx, ok_of hy]; rfl) (by rw [ok_of hx, ok_of hy, band]; rfl)
theorem join_b2 {x y : Int} (p q : BitVec 32) (hx : 0 ≤ x ∧ x ≤ 7) (hy : 0 ≤ y ∧ y ≤ 7) {w : World} {v : Value} (h : Ls w v [(x, (p.toNat : Int)), (y, (q.toNat : Int))]) :
    Calls Try.prog 13 #[v] w fun e w' => VEnd w (.agg #[.int .i64 (max x y), .int .u32 ((p ||| q).toNat : Int)]) e w' := by
  have ha : allOk [(x, (p.toNat : Int)), (y, (q.toNat : Int))] = true := by rw [allOk2, ok_of hx, ok_of hy]; rfl
  refine join_is h _ _ ?_ ?_
  · rw [ha, if_pos rfl]
    show max (max 0 x) y = max x y
    omega
  · rw [ha, if_pos rfl]
    show bits .or .u32 (bits .or .u32 ((0#32).toNat : Int) (p.toNat : Int)) (q.toNat : Int) = _
    rw [bor, bor, BitVec.zero_or]

theorem fl_refl (x : Int) (p : BitVec 32) : fl x p x p = true := (fl_iff _ _ _ _).2 ⟨Int.le_refl _, fun _ _ h => h⟩
theorem fl_trans {x y z : Int} {p q r : BitVec 32} (h1 : fl x p y q = true) (h2 : fl y q z r = true) : fl x p z r = true := by
  rw [fl_iff] at *
  exact ⟨by omega, fun i hi hp => h2.2 i hi (h1.2 i hi hp)⟩
theorem fl_anti {x y : Int} {p q : BitVec 32} (h1 : fl x p y q = true) (h2 : fl y q x p = true) : x = y ∧ p = q := by
  rw [fl_iff] at *
  refine ⟨by omega, BitVec.eq_of_getLsbD_eq fun i hi => ?_⟩
  have a := h1.2 i hi
  have b := h2.2 i hi
  cases hp : p.getLsbD i <;> cases hq : q.getLsbD i
  · rfl
  · rw [hp, hq] at b; simp at b
  · rw [hp, hq] at a; simp at a
  · rfl
theorem fl_zero {x : Int} (p : BitVec 32) (h : 0 ≤ x) : fl 0 0#32 x p = true := (fl_iff _ _ _ _).2 ⟨h, fun i _ h => by simp at h⟩
theorem fl_top {x : Int} (p : BitVec 32) (h : x ≤ 7) : fl x p 7 4294967295#32 = true := by
  refine (fl_iff _ _ _ _).2 ⟨h, fun i hi _ => ?_⟩
  rw [show (4294967295#32 : BitVec 32) = BitVec.allOnes 32 by decide, BitVec.getLsbD_allOnes]
  simpa using hi

end Go.Proofs.Ytcgimbomandjfaa
