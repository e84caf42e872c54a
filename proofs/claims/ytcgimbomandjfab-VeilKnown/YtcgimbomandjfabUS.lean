/- digits.U, digits.S, and the two that go between numbers and what stands for them. -/
import Derived.Test.YtcgimbomandjfabWr
namespace Go.Proofs.Ytcgimbomandjfab
open Go.RowKit

/-- What stands for a number on either side of 0. -/
def foldI (n : Int) : Int := if n < 0 then -2 * n - 1 else 2 * n

theorem foldI_bd (n : Int) (h0 : -9007199254740991 ≤ n) (h1 : n ≤ 9007199254740991) : 0 ≤ foldI n ∧ foldI n ≤ 18014398509481982 := by
  unfold foldI; split <;> omega

set_option maxHeartbeats 400000 in
theorem U_ok (n : Int) (w : World) (h0 : 0 ≤ n) (h1 : n ≤ 9007199254740991) :
    Calls Try.prog 16 #[.int .i64 n] w fun e w' => e = .returned (.tuple #[.slice (some ⟨w.heap.size, 0, none⟩) (Num.enc n).length (Num.enc n).length, .int .i64 0]) ∧ w' = (w.alloc (.cells (u8s (Num.enc n)) 5)).drew := by
  go_enter Try.func16, Try.ntmps16
  go_wp2_with (go_at_call 24; refine (write_any _ _ (by omega) (by omega)).mono ?_; rintro e w' ⟨rfl, rfl⟩)
  go_ret2
  exact ⟨rfl, rfl⟩

set_option maxHeartbeats 400000 in
theorem U_low (n : Int) (w : World) (h0 : n < 0) :
    Calls Try.prog 16 #[.int .i64 n] w fun e w' => e = .returned (.tuple #[.slice none 0 0, .int .i64 9]) ∧ w' = w := by
  go_enter Try.func16, Try.ntmps16
  go_wp2
  go_ret2
  exact ⟨rfl, rfl⟩

set_option maxHeartbeats 400000 in
theorem U_high (n : Int) (w : World) (h0 : 9007199254740991 < n) :
    Calls Try.prog 16 #[.int .i64 n] w fun e w' => e = .returned (.tuple #[.slice none 0 0, .int .i64 9]) ∧ w' = w := by
  go_enter Try.func16, Try.ntmps16
  go_wp2
  go_ret2
  exact ⟨rfl, rfl⟩

/-- The way back from 'foldI'. -/
def unfoldI (n : Int) : Int := if n % 2 = 1 then -((n + 1) / 2) else n / 2

theorem unfold_fold (n : Int) : unfoldI (foldI n) = n := by
  unfold unfoldI foldI
  repeat' split
  all_goals omega

theorem fold_unfold (n : Int) (h0 : 0 ≤ n) : foldI (unfoldI n) = n := by
  unfold unfoldI foldI
  repeat' split
  all_goals omega

end Go.Proofs.Ytcgimbomandjfab
