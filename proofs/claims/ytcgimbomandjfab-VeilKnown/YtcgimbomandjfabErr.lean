/- The reader's Err, Left and Fail. -/
import Derived.Test.YtcgimbomandjfabCl
import Derived.Handy
namespace Go.Proofs.Ytcgimbomandjfab
open Go.RowKit
variable {RB : Nat}

set_option maxHeartbeats 400000 in
theorem Err_any {w : World} {rb : Nat} {l : List Int} {e0 : Int} (h : Rd RB w rb l e0) :
    Calls Try.prog 15 #[.pointer (some ⟨rb, 0, none⟩)] w fun e w' => e = .returned (.int .i64 e0) ∧ w' = w := by
  obtain ⟨h0, h1, ⟨v, h2, h3⟩, h4, h5, h6⟩ := h
  clear h0 h2 h3 h5 h6
  go_enter Try.func15, Try.ntmps15
  go_wp2
  go_ret
  exact ⟨rfl, rfl⟩

/-- A reader behind a store of what is left and of the error. -/
theorem Rd.fail {w : World} {rb : Nat} {l : List Int} {e0 : Int} (h : Rd RB w rb l e0) (e1 : Int) :
    Rd RB ((w.setCell ⟨rb, 2, none⟩ (.int .i64 e1)).setCell ⟨rb, 1, none⟩ (.slice none 0 0)) rb [] e1 := by
  obtain ⟨h0, h1, ⟨v, h2, h3⟩, h4, h5, h6⟩ := h
  refine ⟨by simpa using h0, ?_, ⟨.slice none 0 0, ?_, ⟨Byt.nil, by simp, Or.inl ⟨rfl, rfl⟩⟩⟩, ?_, by simpa using h5, by simpa using h6⟩
  · simp [go_sem, h1]
  · simp [go_sem, h2]
  · simp [go_sem, h4]

theorem kp_fail (w : World) (rb : Nat) (x y : Value) : Kp (fun b => b = rb) w ((w.setCell ⟨rb, 2, none⟩ x).setCell ⟨rb, 1, none⟩ y) :=
  ((Kp.refl (fun b => b = rb) w).setCell ⟨rb, 2, none⟩ x (fun _ => rfl)).setCell ⟨rb, 1, none⟩ y (fun _ => rfl)

set_option maxHeartbeats 400000 in
theorem Fail_new {w : World} {rb : Nat} {l : List Int} {e1 : Int} (h : Rd RB w rb l 0) (he : e1 ≠ 0) :
    Calls Try.prog 21 #[.pointer (some ⟨rb, 0, none⟩), .int .i64 e1] w fun e w' => e = .returned (.tuple #[]) ∧ w' = (w.setCell ⟨rb, 2, none⟩ (.int .i64 e1)).setCell ⟨rb, 1, none⟩ (.slice none 0 0) := by
  have H : Hid (Rd RB w rb l 0) := h
  obtain ⟨h0, h1, ⟨v, h2, h3⟩, h4, h5, h6⟩ := h
  clear h0 h1 h3
  have hn : (e1 == 0) = false := by simpa using he
  clear he
  go_enter Try.func21, Try.ntmps21
  go_wp2_with (go_at_call 15; refine (Err_any H.out).mono ?_; rintro e w' ⟨rfl, rfl⟩)
  go_end0
  exact ⟨rfl, rfl⟩

set_option maxHeartbeats 400000 in
/-- Behind an error nothing is kept. -/
theorem Fail_old {w : World} {rb : Nat} {l : List Int} {e0 e1 : Int} (h : Rd RB w rb l e0) (he : e0 ≠ 0) (h1 : e1 ≠ 0) :
    Calls Try.prog 21 #[.pointer (some ⟨rb, 0, none⟩), .int .i64 e1] w fun e w' => e = .returned (.tuple #[]) ∧ w' = w := by
  have H : Hid (Rd RB w rb l e0) := h
  have hn : (e1 == 0) = false := by simpa using h1
  have hm : (e0 != 0) = true := by simpa using he
  clear h he h1
  go_enter Try.func21, Try.ntmps21
  go_wp2_with (go_at_call 15; refine (Err_any H.out).mono ?_; rintro e w' ⟨rfl, rfl⟩)
  go_returns
  exact ⟨rfl, rfl⟩

set_option maxHeartbeats 400000 in
theorem Fail_ok {w : World} {rb : Nat} :
    Calls Try.prog 21 #[.pointer (some ⟨rb, 0, none⟩), .int .i64 0] w fun e w' => e = .returned (.tuple #[]) ∧ w' = w := by
  go_enter Try.func21, Try.ntmps21
  go_wp2_with fail
  go_returns
  exact ⟨rfl, rfl⟩
end Go.Proofs.Ytcgimbomandjfab
