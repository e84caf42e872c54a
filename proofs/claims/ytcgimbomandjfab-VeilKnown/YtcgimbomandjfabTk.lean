/- take at numbers; the reader's U and S. -/
import Derived.Test.YtcgimbomandjfabRaw
import Derived.Test.YtcgimbomandjfabUS
namespace Go.Proofs.Ytcgimbomandjfab
open Go.RowKit
variable {RB : Nat}
set_option linter.unusedVariables false

theorem number_is {w : World} {rb : Nat} {l : List Int} (h : Rd RB w rb l 0) (most n er : Int) (k : Nat) (hn : Num.num most l = (n, er, k)) :
    Calls Try.prog 26 #[.pointer (some ⟨rb, 0, none⟩), .int .i64 most] w fun e w' => e = .returned (.tuple #[.int .i64 n, .int .i64 er]) ∧ Rd RB w' rb (l.drop k) 0 ∧ Kp (fun b => b = rb) w w' := by
  refine (number_any h most).mono ?_
  rintro e w' ⟨h1, h2, h3⟩
  rw [hn] at h1 h2
  exact ⟨h1, h2, h3⟩

set_option maxHeartbeats 400000 in
theorem takeI_err {w : World} {rb : Nat} {l : List Int} {e0 : Int} (h : Rd RB w rb l e0) (he : e0 ≠ 0) (most : Int) (f : Value) :
    Calls Try.prog 25 #[.pointer (some ⟨rb, 0, none⟩), f, .int .i64 most] w fun e w' => e = .returned (.int .i64 0) ∧ w' = w := by
  have H : Hid (Rd RB w rb l e0) := h
  have hm : (e0 != 0) = true := by simpa using he
  clear h he
  go_enter Try.func25, Try.ntmps25
  go_wp2_with (go_at_call 15; refine (Err_any H.out).mono ?_; rintro e w' ⟨rfl, rfl⟩)
  go_ret
  exact ⟨rfl, rfl⟩

set_option maxHeartbeats 400000 in
theorem takeI_bad {w : World} {rb : Nat} {l : List Int} (h : Rd RB w rb l 0) (most n er : Int) (k : Nat) (hn : Num.num most l = (n, er, k)) (he : er ≠ 0) :
    Calls Try.prog 25 #[.pointer (some ⟨rb, 0, none⟩), .func (Fn.func 26) #[.pointer (some ⟨rb, 0, none⟩)] #[], .int .i64 most] w fun e w' => e = .returned (.int .i64 0) ∧ Rd RB w' rb [] er ∧ Kp (fun b => b = rb) w w' := by
  have H : Hid (Rd RB w rb l 0) := h
  have hm : (er != 0) = true := by simpa using he
  have HE : Hid (er ≠ 0) := he
  have HN : Hid (Num.num most l = (n, er, k)) := hn
  clear h he hn
  go_enter Try.func25, Try.ntmps25
  go_wp2_with (first
    | (go_at_call 15; refine (Err_any H.out).mono ?_; rintro e w' ⟨rfl, rfl⟩)
    | (go_at_call 26; refine (number_is H.out most n er k HN.out).mono ?_; rintro e w1 ⟨rfl, hr, hk⟩; have HR := hd hr; have HKP := hd hk; clear hr hk)
    | (go_at_call 21; refine (Fail_new HR.out HE.out).mono ?_; rintro e w2 ⟨rfl, rfl⟩))
  go_ret
  exact ⟨rfl, HR.out.fail er, HKP.out.trans (kp_fail _ _ _ _)⟩

set_option maxHeartbeats 400000 in
theorem takeI_ok {w : World} {rb : Nat} {l : List Int} (h : Rd RB w rb l 0) (most n : Int) (k : Nat) (hn : Num.num most l = (n, 0, k)) :
    Calls Try.prog 25 #[.pointer (some ⟨rb, 0, none⟩), .func (Fn.func 26) #[.pointer (some ⟨rb, 0, none⟩)] #[], .int .i64 most] w fun e w' => e = .returned (.int .i64 n) ∧ Rd RB w' rb (l.drop k) 0 ∧ Kp (fun b => b = rb) w w' := by
  have H : Hid (Rd RB w rb l 0) := h
  have HN : Hid (Num.num most l = (n, 0, k)) := hn
  clear h hn
  go_enter Try.func25, Try.ntmps25
  go_wp2_with (first
    | (go_at_call 15; refine (Err_any H.out).mono ?_; rintro e w' ⟨rfl, rfl⟩)
    | (go_at_call 26; refine (number_is H.out most n 0 k HN.out).mono ?_; rintro e w1 ⟨rfl, hr, hk⟩; have HR := hd hr; have HKP := hd hk; clear hr hk))
  go_ret
  exact ⟨rfl, HR.out, HKP.out⟩

/-- What a reader tells when a number up to 'most' is asked of it, what is left, and its error. -/
def uStep (most : Int) (l : List Int) (e : Int) : Int × List Int × Int :=
  if e ≠ 0 then (0, l, e) else if (Num.num most l).2.1 ≠ 0 then (0, [], (Num.num most l).2.1) else ((Num.num most l).1, l.drop (Num.num most l).2.2, 0)

theorem takeI_any {w : World} {rb : Nat} {l : List Int} {e0 : Int} (h : Rd RB w rb l e0) (most : Int) :
    Calls Try.prog 25 #[.pointer (some ⟨rb, 0, none⟩), .func (Fn.func 26) #[.pointer (some ⟨rb, 0, none⟩)] #[], .int .i64 most] w fun e w' =>
      e = .returned (.int .i64 (uStep most l e0).1) ∧ Rd RB w' rb (uStep most l e0).2.1 (uStep most l e0).2.2 ∧ Kp (fun b => b = rb) w w' := by
  unfold uStep
  by_cases he : e0 ≠ 0
  · rw [if_pos he]
    refine (takeI_err h he most _).mono ?_
    rintro e w' ⟨rfl, rfl⟩
    exact ⟨rfl, h, Kp.refl _ _⟩
  · rw [if_neg he]
    have he' : e0 = 0 := by simpa using he
    subst he'
    obtain ⟨n, er, k, hn⟩ : ∃ n er k, Num.num most l = (n, er, k) := ⟨_, _, _, rfl⟩
    rw [hn]
    by_cases h2 : er ≠ 0
    · rw [if_pos h2]; exact takeI_bad h most n er k hn h2
    · rw [if_neg h2]
      have h2' : er = 0 := by simpa using h2
      subst h2'
      exact takeI_ok h most n k hn

theorem takeI_is {w : World} {rb : Nat} {l l' : List Int} {e0 e1 : Int} (h : Rd RB w rb l e0) (most n : Int) (hs : uStep most l e0 = (n, l', e1)) :
    Calls Try.prog 25 #[.pointer (some ⟨rb, 0, none⟩), .func (Fn.func 26) #[.pointer (some ⟨rb, 0, none⟩)] #[], .int .i64 most] w fun e w' =>
      e = .returned (.int .i64 n) ∧ Rd RB w' rb l' e1 ∧ Kp (fun b => b = rb) w w' := by
  refine (takeI_any h most).mono ?_
  rw [hs]
  exact fun e w' h => h

set_option maxHeartbeats 400000 in
theorem RU_is {w : World} {rb : Nat} {l l' : List Int} {e0 e1 : Int} (h : Rd RB w rb l e0) (n : Int) (hs : uStep 9007199254740991 l e0 = (n, l', e1)) :
    Calls Try.prog 20 #[.pointer (some ⟨rb, 0, none⟩)] w fun e w' => e = .returned (.int .i64 n) ∧ Rd RB w' rb l' e1 ∧ Kp (fun b => b = rb) w w' := by
  have H : Hid (Rd RB w rb l e0) := h
  have HS : Hid (uStep 9007199254740991 l e0 = (n, l', e1)) := hs
  clear h hs
  go_enter Try.func20, Try.ntmps20
  go_wp2_with (go_at_call 25; refine (takeI_is H.out _ n HS.out).mono ?_; rintro e w1 ⟨rfl, hr, hk⟩; have HR := hd hr; have HKP := hd hk; clear hr hk)
  go_ret
  exact ⟨rfl, HR.out, HKP.out⟩

theorem num_bd (most : Int) (l : List Int) (hm : 0 ≤ most) (hl : Byt l) : 0 ≤ (Num.num most l).1 ∧ (Num.num most l).1 ≤ most := by
  have ht := Num.told_bd (l.getD 0 0)
  unfold Num.num
  repeat' split
  all_goals try exact ⟨Int.le_refl 0, hm⟩
  rename_i h0 h9 hs hb
  have hv := Num.V_bd l (Num.told (l.getD 0 0)) (fun i => hl.get i) (by omega) (by omega)
  exact ⟨hv.2.1, by omega⟩

theorem uStep_bd (most : Int) (l : List Int) (e : Int) (hm : 0 ≤ most) (hl : Byt l) : 0 ≤ (uStep most l e).1 ∧ (uStep most l e).1 ≤ most := by
  have h := num_bd most l hm hl
  unfold uStep
  repeat' split
  · exact ⟨Int.le_refl 0, hm⟩
  · exact ⟨Int.le_refl 0, hm⟩
  · exact h

theorem Rd.byt {w : World} {rb : Nat} {l : List Int} {e : Int} (h : Rd RB w rb l e) : Byt l := by
  obtain ⟨v, _, hb⟩ := h.left
  exact hb.1

end Go.Proofs.Ytcgimbomandjfab
