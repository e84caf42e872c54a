/- digits.U, digits.S, and the two that go between numbers and what stands for them. -/
import Derived.Test.YtdjpdllgifdhaaaWr
namespace Go.Proofs.Ytdjpdllgifdhaaa
open Go.RowKit

set_option maxHeartbeats 400000 in
theorem fold_neg (n : Int) (w : World) (h0 : n < 0) (h1 : -9007199254740991 ≤ n) :
    Calls Try.prog 39 #[.int .i64 n] w fun e w' => e = .returned (.int .i64 (-2 * n - 1)) ∧ w' = w := by
  go_enter Try.func39, Try.ntmps39
  go_wp2
  go_ret
  exact ⟨rfl, rfl⟩

set_option maxHeartbeats 400000 in
theorem fold_pos (n : Int) (w : World) (h0 : 0 ≤ n) (h1 : n ≤ 9007199254740991) :
    Calls Try.prog 39 #[.int .i64 n] w fun e w' => e = .returned (.int .i64 (2 * n)) ∧ w' = w := by
  go_enter Try.func39, Try.ntmps39
  go_wp2
  go_ret
  exact ⟨rfl, rfl⟩

/-- What stands for a number on either side of 0. -/
def foldI (n : Int) : Int := if n < 0 then -2 * n - 1 else 2 * n

theorem foldI_bd (n : Int) (h0 : -9007199254740991 ≤ n) (h1 : n ≤ 9007199254740991) : 0 ≤ foldI n ∧ foldI n ≤ 18014398509481982 := by
  unfold foldI; split <;> omega

theorem fold_any (n : Int) (w : World) (h0 : -9007199254740991 ≤ n) (h1 : n ≤ 9007199254740991) :
    Calls Try.prog 39 #[.int .i64 n] w fun e w' => e = .returned (.int .i64 (foldI n)) ∧ w' = w := by
  unfold foldI
  by_cases h : n < 0
  · rw [if_pos h]; exact fold_neg n w h h0
  · rw [if_neg h]; exact fold_pos n w (by omega) h1

set_option maxHeartbeats 400000 in
theorem U_ok (n : Int) (w : World) (h0 : 0 ≤ n) (h1 : n ≤ 9007199254740991) :
    Calls Try.prog 9 #[.int .i64 n] w fun e w' => e = .returned (.tuple #[.slice (some ⟨w.heap.size, 0, none⟩) (Num.enc n).length (Num.enc n).length, .int .i64 0]) ∧ w' = (w.alloc (.cells (u8s (Num.enc n)) 5)).drew := by
  go_enter Try.func9, Try.ntmps9
  go_wp2_with (go_at_call 37; refine (write_any _ _ (by omega) (by omega)).mono ?_; rintro e w' ⟨rfl, rfl⟩)
  go_ret2
  exact ⟨rfl, rfl⟩

set_option maxHeartbeats 400000 in
theorem U_low (n : Int) (w : World) (h0 : n < 0) :
    Calls Try.prog 9 #[.int .i64 n] w fun e w' => e = .returned (.tuple #[.slice none 0 0, .int .i64 9]) ∧ w' = w := by
  go_enter Try.func9, Try.ntmps9
  go_wp2
  go_ret2
  exact ⟨rfl, rfl⟩

set_option maxHeartbeats 400000 in
theorem U_high (n : Int) (w : World) (h0 : 9007199254740991 < n) :
    Calls Try.prog 9 #[.int .i64 n] w fun e w' => e = .returned (.tuple #[.slice none 0 0, .int .i64 9]) ∧ w' = w := by
  go_enter Try.func9, Try.ntmps9
  go_wp2
  go_ret2
  exact ⟨rfl, rfl⟩

set_option maxHeartbeats 400000 in
theorem S_ok (n : Int) (w : World) (h0 : -9007199254740991 ≤ n) (h1 : n ≤ 9007199254740991) :
    Calls Try.prog 11 #[.int .i64 n] w fun e w' => e = .returned (.tuple #[.slice (some ⟨w.heap.size, 0, none⟩) (Num.enc (foldI n)).length (Num.enc (foldI n)).length, .int .i64 0]) ∧ w' = (w.alloc (.cells (u8s (Num.enc (foldI n))) 5)).drew := by
  have hf := foldI_bd n h0 h1
  obtain ⟨hf0, hf1⟩ := hf
  go_enter Try.func11, Try.ntmps11
  go_wp2_with (first
    | (go_at_call 39; refine (fold_any _ _ (by omega) (by omega)).mono ?_; rintro e w' ⟨rfl, rfl⟩)
    | (go_at_call 37; refine (write_any _ _ (by omega) (by omega)).mono ?_; rintro e w' ⟨rfl, rfl⟩))
  go_ret2
  exact ⟨rfl, rfl⟩

set_option maxHeartbeats 400000 in
theorem S_low (n : Int) (w : World) (h0 : n < -9007199254740991) :
    Calls Try.prog 11 #[.int .i64 n] w fun e w' => e = .returned (.tuple #[.slice none 0 0, .int .i64 9]) ∧ w' = w := by
  go_enter Try.func11, Try.ntmps11
  go_wp2
  go_ret2
  exact ⟨rfl, rfl⟩

set_option maxHeartbeats 400000 in
theorem S_high (n : Int) (w : World) (h0 : 9007199254740991 < n) :
    Calls Try.prog 11 #[.int .i64 n] w fun e w' => e = .returned (.tuple #[.slice none 0 0, .int .i64 9]) ∧ w' = w := by
  go_enter Try.func11, Try.ntmps11
  go_wp2
  go_ret2
  exact ⟨rfl, rfl⟩

set_option maxHeartbeats 400000 in
theorem unfold_odd (n : Int) (w : World) (h0 : 0 ≤ n) (h1 : n ≤ 18014398509481982) (h : n % 2 = 1) :
    Calls Try.prog 44 #[.int .i64 n] w fun e w' => e = .returned (.int .i64 (-((n + 1) / 2))) ∧ w' = w := by
  have HD : Hid (wrap64 (-(n + 1).tdiv 2) = -((n + 1) / 2)) := by
    show _ = _
    rw [Int.tdiv_eq_ediv_of_nonneg (by omega)]; unfold wrap64; omega
  go_enter Try.func44, Try.ntmps44
  go_wp2
  go_ret
  exact ⟨congrArg (fun x => Ending.returned (Value.int .i64 x)) HD.out, rfl⟩

set_option maxHeartbeats 400000 in
theorem unfold_even (n : Int) (w : World) (h0 : 0 ≤ n) (h1 : n ≤ 18014398509481982) (h : n % 2 = 0) :
    Calls Try.prog 44 #[.int .i64 n] w fun e w' => e = .returned (.int .i64 (n / 2)) ∧ w' = w := by
  go_enter Try.func44, Try.ntmps44
  go_wp2
  go_ret
  exact ⟨rfl, rfl⟩

/-- The way back from 'foldI'. -/
def unfoldI (n : Int) : Int := if n % 2 = 1 then -((n + 1) / 2) else n / 2

theorem unfold_any (n : Int) (w : World) (h0 : 0 ≤ n) (h1 : n ≤ 18014398509481982) :
    Calls Try.prog 44 #[.int .i64 n] w fun e w' => e = .returned (.int .i64 (unfoldI n)) ∧ w' = w := by
  unfold unfoldI
  by_cases h : n % 2 = 1
  · rw [if_pos h]; exact unfold_odd n w h0 h1 h
  · rw [if_neg h]; exact unfold_even n w h0 h1 (by omega)

theorem unfold_fold (n : Int) : unfoldI (foldI n) = n := by
  unfold unfoldI foldI
  repeat' split
  all_goals omega

theorem fold_unfold (n : Int) (h0 : 0 ≤ n) : foldI (unfoldI n) = n := by
  unfold unfoldI foldI
  repeat' split
  all_goals omega

end Go.Proofs.Ytdjpdllgifdhaaa
