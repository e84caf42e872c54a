/- Bring, and how many bytes U and S make. -/
import Derived.Test.YtcgimbomandjfaaWk
namespace Go.Proofs.Ytcgimbomandjfaa
open Go.RowKit
set_option linter.unusedVariables false

theorem tmod_neg (i n : Int) (hn : 0 < n) (hn' : n ≤ 9007199254740992) (h : i.tmod n < 0) : wrap64 (i.tmod n + n) = i % n := by
  have h1 := Int.lt_tmod_of_pos i hn
  have h2 := Int.tmod_add_mul_tdiv i n
  have h3 : i % n = (i.tmod n + n) % n := by
    rw [← h2, Int.add_mul_emod_self_left, Int.add_emod_right, h2]
  rw [h3, Int.emod_eq_of_lt (by omega) (by omega)]
  unfold wrap64; omega

theorem tmod_pos (i n : Int) (hn : 0 < n) (h : 0 ≤ i.tmod n) : i.tmod n = i % n := by
  have h1 := Int.tmod_lt_of_pos i hn
  have h2 := Int.tmod_add_mul_tdiv i n
  have h3 : i % n = i.tmod n % n := by
    have h4 := Int.add_mul_emod_self_left (i.tmod n) n (i.tdiv n)
    rw [h2] at h4
    exact h4
  rw [h3, Int.emod_eq_of_lt h h1]

set_option maxHeartbeats 400000 in
/-- R.Bring: the remainder, from 0 on. -/
theorem bring_any (i n : Int) (w : World) (h0 : -9223372036854775808 ≤ i) (h1 : i ≤ 9223372036854775807) (hn : 0 < n) (hn' : n ≤ 9007199254740992) :
    Calls Try.prog 50 #[.int .i64 i, .int .i64 n] w fun e w' => e = .returned (.int .i64 (i % n)) ∧ w' = w := by
  have hz : (n == 0) = false := by rw [beq_eq_false_iff_ne]; omega
  have hm : (n == -1) = false := by rw [beq_eq_false_iff_ne]; omega
  by_cases hi : 0 ≤ i
  · have hp : 0 ≤ i % n := Int.emod_nonneg _ (by omega)
    go_enter Try.func50, Try.ntmps50
    go_wp2
    go_ret
    exact ⟨rfl, rfl⟩
  · by_cases ht : i.tmod n < 0
    · have HT := hd (tmod_neg i n hn hn' ht)
      go_enter Try.func50, Try.ntmps50
      go_wp2
      go_ret
      exact ⟨congrArg (fun x => Ending.returned (Value.int .i64 x)) HT.out, rfl⟩
    · have HT := hd (tmod_pos i n hn (by omega))
      go_enter Try.func50, Try.ntmps50
      go_wp2
      go_ret
      exact ⟨congrArg (fun x => Ending.returned (Value.int .i64 x)) HT.out, rfl⟩

/-- Bytes that were made, so many. -/
def LenEnd (w : World) (k : Nat) (e : Ending) (w' : World) : Prop :=
  ∃ a cap, e = .returned (.tuple #[.slice a k cap, .int .i64 0]) ∧ Below w.heap.size w w'

theorem U_len (n : Int) (k : Nat) (w : World) (h0 : 0 ≤ n) (h1 : n ≤ 9007199254740991) (hk : Num.sz n = k) :
    Calls Try.prog 38 #[.int .i64 n] w fun e w' => LenEnd w k e w' := by
  refine (U_made n w h0 h1).mono ?_
  rintro e w' ⟨a, cap, rfl, _, hb⟩
  rw [Num.enc_length, hk]
  exact ⟨a, cap, rfl, hb⟩

end Go.Proofs.Ytcgimbomandjfaa
