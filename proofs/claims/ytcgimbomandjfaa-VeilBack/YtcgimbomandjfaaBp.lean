/- What VeilBack needs: what was written is taken off as it was; what was taken off, written, is what it was; the front of a row. -/
import Derived.Test.YtcgimbomandjfaaWw
import Derived.Test.YtcgimbomandjfaaRt
import Derived.Test.YtcgimbomandjfaaAg
namespace Go.Proofs.Ytcgimbomandjfaa
open Go.RowKit
set_option linter.unusedVariables false

theorem u_enc (n : Int) (r : List Int) (h0 : 0 ≤ n) (h1 : n ≤ 9007199254740991) : uStep 9007199254740991 (Num.enc n ++ r) 0 = (n, r, 0) := by
  have h := Num.num_enc 9007199254740991 n r h0 (by omega) h1
  unfold uStep
  rw [if_neg (by simp), h, if_neg (by simp)]
  simp only
  rw [← Num.enc_length n, List.drop_left]

theorem u_again {l l' : List Int} {n e' : Int} (hl : Byt l) (h : uStep 9007199254740991 l 0 = (n, l', e')) (he : e' = 0) : ∃ k, k ≤ l.length ∧ Num.enc n = l.take k ∧ l' = l.drop k := by
  subst he
  obtain ⟨m, er, k, hn⟩ : ∃ n er k, Num.num 9007199254740991 l = (n, er, k) := ⟨_, _, _, rfl⟩
  unfold uStep at h
  rw [if_neg (by simp), hn] at h
  by_cases h2 : er = 0
  · subst h2
    rw [if_neg (by simp)] at h
    simp only [Prod.mk.injEq] at h
    obtain ⟨rfl, rfl, _⟩ := h
    have ha := Num.num_again 9007199254740991 m l k (fun i => hl.get i) hn
    exact ⟨k, ha.1, ha.2, rfl⟩
  · rw [if_pos h2] at h
    simp only [Prod.mk.injEq] at h
    exact absurd h.2.2 h2

theorem tk_again {l l1 l2 : List Int} {n1 e1 n2 e2 X P : Int} {lr : List Int} (hl : Byt l) (h1 : uStep 9007199254740991 l 0 = (n1, l1, e1)) (h2 : uStep 9007199254740991 l1 e1 = (n2, l2, e2)) (ht : tkLab n1 n2 l2 e2 = (X, P, lr, 0)) :
    okL X = true ∧ (0 ≤ P ∧ P ≤ 4294967295) ∧ ∃ k, k ≤ l.length ∧ Num.enc X ++ Num.enc P = l.take k ∧ lr = l.drop k := by
  have hbd := ux_bd (by omega) hl h1 h2
  unfold tkLab at ht
  by_cases he : e2 = 0
  · rw [if_neg (by simpa using he)] at ht
    by_cases hb : 7 < n1 ∨ 4294967295 < n2
    · rw [if_pos hb] at ht
      simp only [Prod.mk.injEq] at ht
      exact absurd ht.2.2.2 (by decide)
    · rw [if_neg hb] at ht
      simp only [Prod.mk.injEq] at ht
      obtain ⟨rfl, rfl, rfl, _⟩ := ht
      have he1 : e1 = 0 := by
        by_cases h : e1 = 0
        · exact h
        · unfold uStep at h2
          rw [if_pos h] at h2
          simp only [Prod.mk.injEq] at h2
          rw [h2.2.2]
          exact he
      subst he1
      obtain ⟨k1, hk1, ek1, el1⟩ := u_again hl h1 rfl
      have hl1 : Byt l1 := by rw [el1]; exact hl.drop _
      obtain ⟨k2, hk2, ek2, el2⟩ := u_again hl1 h2 he
      refine ⟨?_, ⟨hbd.1, by omega⟩, k1 + k2, ?_, ?_, ?_⟩
      · unfold okL
        rw [decide_eq_true hbd.2.2, decide_eq_true (show n1 ≤ 7 by omega)]
        rfl
      · rw [el1, List.length_drop] at hk2
        omega
      · rw [ek1, ek2, el1, List.take_add]
      · rw [el2, el1, List.drop_drop]
  · rw [if_pos he] at ht
    simp only [Prod.mk.injEq] at ht
    exact absurd ht.2.2.2 he

/-- The front of a row. -/
theorem Bx.front {N : Nat} {w : World} {a : Option Addr} {n c k : Nat} {l : List Int} (h : Bx N w (.slice a n c) l) (hn : l.length = n) (hk : k ≤ n) : Bx N w (.slice a k c) (l.take k) := by
  have hlen : (l.take k).length = k := by rw [List.length_take]; omega
  rcases h with ⟨h1, h2, h3⟩ | ⟨h0, x, cap, hv⟩
  · rcases h3 with ⟨hv, h0⟩ | ⟨b, off, cap, hv, hc, hA, hlt, hcell⟩
    · injection hv with e1 e2 e3
      subst e1 e2 e3
      obtain rfl : k = 0 := by omega
      exact Or.inl ⟨h1.take _, by simp, Or.inl ⟨rfl, by simp⟩⟩
    · injection hv with e1 e2 e3
      subst e1 e3
      refine Or.inl ⟨h1.take _, by omega, Or.inr ⟨b, off, c, by rw [hlen], by omega, hA, hlt, fun i hi => ?_⟩⟩
      rw [hlen] at hi
      rw [hcell i (by omega)]
      simp [hi]
  · injection hv with e1 e2 e3
    subst e1
    subst h0
    obtain rfl : k = 0 := by simp at hn; omega
    exact Or.inr ⟨rfl, x, c, rfl⟩

theorem eq_vx {N : Nat} {A : Nat → Prop} {w : World} {va vb : Value} {l : List Int} (ha : Bs A w va l) (hb : Bx N w vb l) : Calls Try.prog 26 #[va, vb] w fun e w' => VEnd w (.bool true) e w' := by
  refine (eq_bx ha hb).mono ?_
  rintro e w' ⟨rfl, m, rfl⟩
  rw [decide_eq_true rfl]
  exact VEnd.mk (below_drewN (Below.refl _ _) m)

/-- One byte in a new row. -/
theorem one9 (w : World) (x : Int) (h0 : 0 ≤ x) (h1 : x ≤ 255) : Bx (w.heap.size + 1) (w.alloc (.cells #[.int .u8 x] 5)) (.slice (some ⟨w.heap.size, 0, none⟩) 1 1) [x] := by
  have hb : Byt [x] := fun y hy => by simp at hy; omega
  exact Or.inl (Bs.fresh0 w [x] 5 1 hb (by simp) (Nat.le_refl _) _ (Nat.lt_succ_self _))

end Go.Proofs.Ytcgimbomandjfaa
