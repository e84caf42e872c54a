/- Joins and meets of labels' levels and parts: bounds; pure. -/
import Derived.Test.YtcgimbomandjfaaPl
namespace Go.Proofs.Ytcgimbomandjfaa
open Go.RowKit
set_option linter.unusedVariables false

theorem bool_ext {a b : Bool} (h : a = true ↔ b = true) : a = b := by
  cases a <;> cases b
  · rfl
  · exact absurd (h.2 rfl) (by simp)
  · exact absurd (h.1 rfl) (by simp)
  · rfl

theorem fl_joinL (x y : Int) (p q : BitVec 32) : fl x p (max x y) (p ||| q) = true :=
  (fl_iff _ _ _ _).2 ⟨by omega, fun i _ h => by rw [BitVec.getLsbD_or, h]; rfl⟩
theorem fl_joinR (x y : Int) (p q : BitVec 32) : fl y q (max x y) (p ||| q) = true :=
  (fl_iff _ _ _ _).2 ⟨by omega, fun i _ h => by rw [BitVec.getLsbD_or, h, Bool.or_true]⟩
theorem fl_join (x y z : Int) (p q r : BitVec 32) : fl (max x y) (p ||| q) z r = (fl x p z r && fl y q z r) := by
  apply bool_ext
  rw [Bool.and_eq_true, fl_iff, fl_iff, fl_iff]
  constructor
  · rintro ⟨h1, h2⟩
    exact ⟨⟨by omega, fun i hi h => h2 i hi (by rw [BitVec.getLsbD_or, h]; rfl)⟩, ⟨by omega, fun i hi h => h2 i hi (by rw [BitVec.getLsbD_or, h, Bool.or_true])⟩⟩
  · rintro ⟨⟨h1, h2⟩, h3, h4⟩
    refine ⟨by omega, fun i hi h => ?_⟩
    rw [BitVec.getLsbD_or, Bool.or_eq_true] at h
    rcases h with h | h
    · exact h2 i hi h
    · exact h4 i hi h
theorem fl_meetL (x y : Int) (p q : BitVec 32) : fl (min x y) (p &&& q) x p = true :=
  (fl_iff _ _ _ _).2 ⟨by omega, fun i _ h => by rw [BitVec.getLsbD_and, Bool.and_eq_true] at h; exact h.1⟩
theorem fl_meetR (x y : Int) (p q : BitVec 32) : fl (min x y) (p &&& q) y q = true :=
  (fl_iff _ _ _ _).2 ⟨by omega, fun i _ h => by rw [BitVec.getLsbD_and, Bool.and_eq_true] at h; exact h.2⟩
theorem fl_meet (x y z : Int) (p q r : BitVec 32) : fl z r (min x y) (p &&& q) = (fl z r x p && fl z r y q) := by
  apply bool_ext
  rw [Bool.and_eq_true, fl_iff, fl_iff, fl_iff]
  constructor
  · rintro ⟨h1, h2⟩
    refine ⟨⟨by omega, fun i hi h => ?_⟩, ⟨by omega, fun i hi h => ?_⟩⟩
    · have := h2 i hi h
      rw [BitVec.getLsbD_and, Bool.and_eq_true] at this
      exact this.1
    · have := h2 i hi h
      rw [BitVec.getLsbD_and, Bool.and_eq_true] at this
      exact this.2
  · rintro ⟨⟨h1, h2⟩, h3, h4⟩
    exact ⟨by omega, fun i hi h => by rw [BitVec.getLsbD_and, h2 i hi h, h4 i hi h]; rfl⟩
theorem fl_eq {x y : Int} {p q : BitVec 32} (h : fl x p y q = true) (h' : fl y q x p = true) : y = x ∧ q = p := by
  obtain ⟨rfl, rfl⟩ := fl_anti h h'
  exact ⟨rfl, rfl⟩
theorem join_is_right (x y : Int) (p q : BitVec 32) : fl x p y q = decide (max x y = y ∧ (p ||| q) = q) := by
  apply bool_ext
  rw [decide_eq_true_eq]
  constructor
  · intro h
    have h1 := fl_join x y y p q q
    rw [h, fl_refl] at h1
    exact fl_anti h1 (fl_joinR x y p q)
  · rintro ⟨h1, h2⟩
    have h := fl_joinL x y p q
    rwa [h1, h2] at h
theorem meet_is_left (x y : Int) (p q : BitVec 32) : fl x p y q = decide (min x y = x ∧ (p &&& q) = p) := by
  apply bool_ext
  rw [decide_eq_true_eq]
  constructor
  · intro h
    have h1 := fl_meet x y x p q p
    rw [h, fl_refl] at h1
    exact fl_anti (fl_meetL x y p q) h1
  · rintro ⟨h1, h2⟩
    have h := fl_meetR x y p q
    rwa [h1, h2] at h

end Go.Proofs.Ytcgimbomandjfaa
