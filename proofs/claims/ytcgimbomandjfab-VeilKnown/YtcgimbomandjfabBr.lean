/- Bring, and how many bytes U and S make. -/
import Derived.Test.YtcgimbomandjfabWk
namespace Go.Proofs.Ytcgimbomandjfab
open Go.RowKit
set_option linter.unusedVariables false

theorem tmod_neg (i n : Int) (hn : 0 < n) (hn' : n ≤ 9007199254740992) (h : i.tmod n < 0) : wrap64 (i.tmod n + n) = i % n := by
  have h1 := Int.lt_tmod_of_pos i hn
  have h2 := Int.tmod_add_mul_tdiv i n
  have h3 : i % n = (i.tmod n + n) % n := by
    rw [← h2, Int.add_mul_emod_self_left, Int.add_emod_right, h2]
  rw [h3, Int.emod_eq_of_lt (by omega) (by omega)]
  unfold wrap64; omega

theorem tmod_pos (i n : Int) (hn : 0 < n) (h : 0 ≤ i.tmod n) : i.tmod n = i % n := by
  have h1 := Int.tmod_lt_of_pos i hn
  have h2 := Int.tmod_add_mul_tdiv i n
  have h3 : i % n = i.tmod n % n := by
    have h4 := Int.add_mul_emod_self_left (i.tmod n) n (i.tdiv n)
    rw [h2] at h4
    exact h4
  rw [h3, Int.emod_eq_of_lt h h1]

/-- Bytes that were made, so many. -/
def LenEnd (w : World) (k : Nat) (e : Ending) (w' : World) : Prop :=
  ∃ a cap, e = .returned (.tuple #[.slice a k cap, .int .i64 0]) ∧ Below w.heap.size w w'

theorem U_len (n : Int) (k : Nat) (w : World) (h0 : 0 ≤ n) (h1 : n ≤ 9007199254740991) (hk : Num.sz n = k) :
    Calls Try.prog 16 #[.int .i64 n] w fun e w' => LenEnd w k e w' := by
  refine (U_made n w h0 h1).mono ?_
  rintro e w' ⟨a, cap, rfl, _, hb⟩
  rw [Num.enc_length, hk]
  exact ⟨a, cap, rfl, hb⟩

end Go.Proofs.Ytcgimbomandjfab
