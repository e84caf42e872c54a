/- The chapter's examples hold: works answers true. -/
import Derived.Test.YtcgimbomandjfabTd
namespace Go.Proofs.Ytcgimbomandjfab
open Go.RowKit
set_option linter.unusedVariables false

theorem textOf_inj {x p x' p' : Nat} (hx : x ≤ 7) (hx' : x' ≤ 7) (hp : p < 4294967296) (hp' : p' < 4294967296) (h : textOf x p = textOf x' p') : x = x' ∧ p = p' := by
  have a := wr3_fgc ⟨x, by omega⟩
  have b := wr3_fgc ⟨x', by omega⟩
  simp only at a b
  have k : ∀ {y q : Nat}, bt (textOf y q) 0 = (fgc y).toNat := fun {y q} => by
    unfold textOf
    split <;> rfl
  have e : bt (textOf x p) 0 = bt (textOf x' p') 0 := by rw [h]
  rw [k, k] at e
  rw [e, b] at a
  have s : (textOf x p).size = (textOf x' p').size := by rw [h]
  refine ⟨by omega, ?_⟩
  unfold textOf at h s
  by_cases h0 : p = 0
  · by_cases h1 : p' = 0
    · omega
    · rw [if_pos h0, if_neg h1] at s
      exact absurd s (by show ¬ (1 = 10); omega)
  · by_cases h1 : p' = 0
    · rw [if_neg h0, if_pos h1] at s
      exact absurd s (by show ¬ (10 = 1); omega)
    · rw [if_neg h0, if_neg h1] at h
      have e1 := ext_tail x p
      rw [h, ext_tail] at e1
      have e2 := (of_text8 p hp).2
      rw [← e1, (of_text8 p' hp').2] at e2
      omega

theorem vread_ok (x p : Nat) (w : World) (hx : x ≤ 7) (hp : p < 4294967296) : Calls Try.prog 13 #[.string (textOf x p)] w fun e w' => VEnd w (le x p 0) e w' := by
  obtain ⟨X, P, E, hr, hc⟩ := vread_any (textOf x p) (by unfold textOf; split; exact (by decide : 1 ≤ 140737488355328); exact (by decide : 10 ≤ 140737488355328))
  rcases hr with ⟨x', p', hx', hp', h, rfl, rfl, rfl⟩ | ⟨h, _⟩
  · obtain ⟨rfl, rfl⟩ := textOf_inj hx hx' hp hp' h
    exact hc w
  · exact absurd rfl (h x p hx hp)

theorem vread_bad (s : ByteArray) (w : World) (hs : s.size ≤ 140737488355328) (h : ∀ x p : Nat, x ≤ 7 → p < 4294967296 → s ≠ textOf x p) : Calls Try.prog 13 #[.string s] w fun e w' => VEnd w (le 0 0 4) e w' := by
  obtain ⟨X, P, E, hr, hc⟩ := vread_any s hs
  rcases hr with ⟨x', p', hx', hp', h', _⟩ | ⟨_, rfl, rfl, rfl⟩
  · exact absurd h' (h x' p' hx' hp')
  · exact hc w

/-- What is no text, by its first byte, its length or its figures. -/
theorem no_text (s : ByteArray) (h1 : s.size = 1 → wr3 (bt s 0) < 0) (h10 : s.size = 10 → ¬ allF4 (s.extract 2 10) 8 ∨ val4 (s.extract 2 10) 8 = 0) : ∀ x p : Nat, x ≤ 7 → p < 4294967296 → s ≠ textOf x p := by
  intro x p hx hp h
  subst h
  unfold textOf at h1 h10
  by_cases h0 : p = 0
  · rw [if_pos h0] at h1
    have a := wr3_fgc ⟨x, by omega⟩
    simp only at a
    have b : wr3 (fgc x).toNat < 0 := h1 rfl
    omega
  · rw [if_neg h0] at h10
    rcases h10 rfl with h | h
    · rw [ext_tail] at h
      exact h (of_text8 p hp).1
    · rw [ext_tail, (of_text8 p hp).2] at h
      omega

theorem no8 : ∀ x p : Nat, x ≤ 7 → p < 4294967296 → (⟨#[56]⟩ : ByteArray) ≠ textOf x p := no_text _ (fun _ => by decide +kernel) (fun h => by cases h)
theorem no30 : ∀ x p : Nat, x ≤ 7 → p < 4294967296 → (⟨#[51, 58, 48, 48, 48, 48, 48, 48, 48, 48]⟩ : ByteArray) ≠ textOf x p := no_text _ (fun h => by cases h) (fun _ => Or.inr (by decide +kernel))
theorem no3G : ∀ x p : Nat, x ≤ 7 → p < 4294967296 → (⟨#[51, 58, 48, 48, 48, 48, 48, 48, 48, 71]⟩ : ByteArray) ≠ textOf x p := no_text _ (fun h => by cases h) (fun _ => Or.inl (fun h => absurd (h 7 (by omega)) (by decide +kernel)))

theorem eq24 (w : World) (x p y q : Int) : (Op.equalIn 10000 24 (.agg #[.int .i64 x, .int .u32 p]) (.agg #[.int .i64 y, .int .u32 q])).run Try.prog w = .ok ((x == y) && (p == q)) w := by
  have u3 := Try.underlying3
  have u22 := Try.underlying22
  have a3 := Try.isAgg3
  have a22 := Try.isAgg22
  rw [show (10000 : Nat) = 9999 + 1 from rfl, run_equalIn_struct w 9999 24 _ _ und24 (by kernel_rfl)]
  go_simp
  by_cases h1 : x = y <;> by_cases h2 : p = q <;> simp [h1, h2]

end Go.Proofs.Ytcgimbomandjfab
