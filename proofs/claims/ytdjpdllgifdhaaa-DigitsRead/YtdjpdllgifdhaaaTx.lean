/- The reader's text; take at bytes; the reader's Raw and Text. -/
import Derived.Test.YtdjpdllgifdhaaaTk
namespace Go.Proofs.Ytdjpdllgifdhaaa
open Go.RowKit
variable {RB : Nat}
set_option linter.unusedVariables false

/-- What taking n bytes off tells: the error, the bytes, what is left. -/
def rawR (n : Int) (l : List Int) : Int × List Int × List Int :=
  if n < 0 then (2, [], l) else if (l.length : Int) < n then (3, [], l) else (0, l.take n.toNat, l.drop n.toNat)

/-- What taking a text off tells. -/
def textR (most : Int) (l : List Int) : Int × List Int × List Int :=
  if (Num.num 9007199254740991 l).2.1 ≠ 0 then ((Num.num 9007199254740991 l).2.1, [], l.drop (Num.num 9007199254740991 l).2.2)
  else if most < (Num.num 9007199254740991 l).1 then (5, [], l.drop (Num.num 9007199254740991 l).2.2)
  else rawR (Num.num 9007199254740991 l).1 (l.drop (Num.num 9007199254740991 l).2.2)

/-- How a step ends that takes bytes off. -/
def StepEnd (RB : Nat) (w : World) (rb : Nat) (r : Int × List Int × List Int) (e : Ending) (w' : World) : Prop :=
  ∃ a cap, e = .returned (.tuple #[.slice a r.2.1.length cap, .int .i64 r.1]) ∧ Bs (fun b => w.heap.size ≤ b) w' (.slice a r.2.1.length cap) r.2.1 ∧ Fr w' (.slice a r.2.1.length cap) r.2.1.length ∧ Rd RB w' rb r.2.2 0 ∧ Kp (fun b => b = rb) w w'

theorem Bs.ofNil (A : Nat → Prop) (w : World) : Bs A w (.slice none 0 0) [] := ⟨Byt.nil, by simp, Or.inl ⟨rfl, rfl⟩⟩

theorem StepEnd.none {w w' : World} {rb : Nat} {er : Int} {l : List Int} (hr : Rd RB w' rb l 0) (hk : Kp (fun b => b = rb) w w') : StepEnd RB w rb (er, [], l) (.returned (.tuple #[.slice none 0 0, .int .i64 er])) w' :=
  ⟨_, 0, rfl, Bs.ofNil _ _, Fr.ofNil _ _ _ _, hr, hk⟩

theorem raw_step {w : World} {rb : Nat} {l : List Int} (h : Rd RB w rb l 0) (n : Int) :
    Calls Try.prog 50 #[.pointer (some ⟨rb, 0, none⟩), .int .i64 n] w fun e w' => StepEnd RB w rb (rawR n l) e w' := by
  refine (raw_any h n).mono ?_
  intro e w' he
  unfold rawR
  rcases he with ⟨h0, rfl, rfl⟩ | ⟨h0, h1, rfl, rfl⟩ | ⟨h0, h1, a, cap, rfl, hb, hf, hr, hk⟩
  · rw [if_pos h0]; exact StepEnd.none h (Kp.refl _ _)
  · rw [if_neg (by omega), if_pos h1]; exact StepEnd.none h (Kp.refl _ _)
  · rw [if_neg (by omega), if_neg (by omega)]; exact ⟨a, cap, rfl, hb, hf, hr, hk⟩

/-- A step behind another one. -/
theorem StepEnd.after {w w1 w' : World} {rb : Nat} {r : Int × List Int × List Int} {e : Ending} (hk : Kp (fun b => b = rb) w w1) (h : StepEnd RB w1 rb r e w') : StepEnd RB w rb r e w' := by
  obtain ⟨a, cap, he, hb, hf, hr, hk'⟩ := h
  exact ⟨a, cap, he, hb.weaken (fun b _ hb' => Nat.le_trans hk.size hb'), hf, hr, hk.trans hk'⟩

set_option maxHeartbeats 400000 in
theorem text_bad {w : World} {rb : Nat} {l : List Int} (h : Rd RB w rb l 0) (most n er : Int) (k : Nat) (hn : Num.num 9007199254740991 l = (n, er, k)) (he : er ≠ 0) :
    Calls Try.prog 49 #[.pointer (some ⟨rb, 0, none⟩), .int .i64 most] w fun e w' => StepEnd RB w rb (er, [], l.drop k) e w' := by
  have H : Hid (Rd RB w rb l 0) := h
  have hm : (er != 0) = true := by simpa using he
  have HN := hd hn
  clear h he hn
  go_enter Try.func49, Try.ntmps49
  go_wp2_with (go_at_call 46; refine (number_is H.out _ n er k HN.out).mono ?_; rintro e w1 ⟨rfl, hr, hk⟩; have HR := hd hr; have HKP := hd hk; clear hr hk)
  go_ret2
  exact StepEnd.none HR.out HKP.out

set_option maxHeartbeats 400000 in
theorem text_much {w : World} {rb : Nat} {l : List Int} (h : Rd RB w rb l 0) (most n : Int) (k : Nat) (hn : Num.num 9007199254740991 l = (n, 0, k)) (he : most < n) :
    Calls Try.prog 49 #[.pointer (some ⟨rb, 0, none⟩), .int .i64 most] w fun e w' => StepEnd RB w rb (5, [], l.drop k) e w' := by
  have H : Hid (Rd RB w rb l 0) := h
  have HN := hd hn
  clear h hn
  go_enter Try.func49, Try.ntmps49
  go_wp2_with (go_at_call 46; refine (number_is H.out _ n 0 k HN.out).mono ?_; rintro e w1 ⟨rfl, hr, hk⟩; have HR := hd hr; have HKP := hd hk; clear hr hk)
  go_ret2
  exact StepEnd.none HR.out HKP.out

set_option maxHeartbeats 400000 in
theorem text_go {w : World} {rb : Nat} {l : List Int} (h : Rd RB w rb l 0) (most n : Int) (k : Nat) (hn : Num.num 9007199254740991 l = (n, 0, k)) (he : n ≤ most) :
    Calls Try.prog 49 #[.pointer (some ⟨rb, 0, none⟩), .int .i64 most] w fun e w' => StepEnd RB w rb (rawR n (l.drop k)) e w' := by
  have H : Hid (Rd RB w rb l 0) := h
  have HN := hd hn
  clear h hn
  go_enter Try.func49, Try.ntmps49
  go_wp2_with (first
    | (go_at_call 46; refine (number_is H.out _ n 0 k HN.out).mono ?_; rintro e w1 ⟨rfl, hr, hk⟩; have HR := hd hr; have HKP := hd hk; clear hr hk)
    | (go_at_call 50; refine (raw_step HR.out n).mono ?_; rintro e w2 hst; have HST := hd hst; obtain ⟨a, cap, rfl, _, _, _, _⟩ := hst))
  go_ret2
  exact StepEnd.after HKP.out HST.out

theorem text_step {w : World} {rb : Nat} {l : List Int} (h : Rd RB w rb l 0) (most : Int) :
    Calls Try.prog 49 #[.pointer (some ⟨rb, 0, none⟩), .int .i64 most] w fun e w' => StepEnd RB w rb (textR most l) e w' := by
  obtain ⟨n, er, k, hn⟩ : ∃ n er k, Num.num 9007199254740991 l = (n, er, k) := ⟨_, _, _, rfl⟩
  unfold textR
  rw [hn]
  by_cases h2 : er ≠ 0
  · rw [if_pos h2]; exact text_bad h most n er k hn h2
  · have h2' : er = 0 := by simpa using h2
    subst h2'
    rw [if_neg h2]
    by_cases h3 : most < n
    · rw [if_pos h3]; exact text_much h most n k hn h3
    · rw [if_neg h3]; exact text_go h most n k hn (by omega)

set_option maxHeartbeats 400000 in
theorem takeB_err {w : World} {rb : Nat} {l : List Int} {e0 : Int} (h : Rd RB w rb l e0) (he : e0 ≠ 0) (most : Int) (f : Value) :
    Calls Try.prog 48 #[.pointer (some ⟨rb, 0, none⟩), f, .int .i64 most] w fun e w' => e = .returned (.slice none 0 0) ∧ w' = w := by
  have H : Hid (Rd RB w rb l e0) := h
  have hm : (e0 != 0) = true := by simpa using he
  clear h he
  go_enter Try.func48, Try.ntmps48
  go_wp2_with (go_at_call 31; refine (Err_any H.out).mono ?_; rintro e w' ⟨rfl, rfl⟩)
  go_ret
  exact ⟨rfl, rfl⟩

/-- What a step tells a reader: the bytes, what is left, and its error. -/
def bStep (r : Int × List Int × List Int) (l : List Int) (e : Int) : List Int × List Int × Int :=
  if e ≠ 0 then ([], l, e) else if r.1 ≠ 0 then ([], [], r.1) else (r.2.1, r.2.2, 0)

def TakeEnd (RB : Nat) (w : World) (rb : Nat) (r : List Int × List Int × Int) (e : Ending) (w' : World) : Prop :=
  ∃ a cap, e = .returned (.slice a r.1.length cap) ∧ Bs (fun b => w.heap.size ≤ b) w' (.slice a r.1.length cap) r.1 ∧ Fr w' (.slice a r.1.length cap) r.1.length ∧ Rd RB w' rb r.2.1 r.2.2 ∧ Kp (fun b => b = rb) w w'

set_option maxHeartbeats 400000 in
theorem takeB_badT {w : World} {rb : Nat} {l : List Int} (h : Rd RB w rb l 0) (n er : Int) (bs rest : List Int) (hs : Calls Try.prog 49 #[.pointer (some ⟨rb, 0, none⟩), .int .i64 n] w fun e w' => StepEnd RB w rb (er, bs, rest) e w') (he : er ≠ 0) :
    Calls Try.prog 48 #[.pointer (some ⟨rb, 0, none⟩), .func (Fn.func 49) #[.pointer (some ⟨rb, 0, none⟩)] #[], .int .i64 n] w fun e w' => TakeEnd RB w rb ([], [], er) e w' := by
  have H : Hid (Rd RB w rb l 0) := h
  have HC : Hid (Calls Try.prog 49 #[.pointer (some ⟨rb, 0, none⟩), .int .i64 n] w fun e w' => StepEnd RB w rb (er, bs, rest) e w') := hs
  have hm : (er != 0) = true := by simpa using he
  have HE : Hid (er ≠ 0) := he
  clear h he hs
  go_enter Try.func48, Try.ntmps48
  go_wp2_with (first
    | (go_at_call 31; refine (Err_any H.out).mono ?_; rintro e w' ⟨rfl, rfl⟩)
    | (go_at_call 49; refine (HC.out).mono ?_; rintro e w2 hst; have HST := hd hst; obtain ⟨a, cap, rfl, _, _, hr, hk⟩ := hst; have HR := hd hr; have HKP := hd hk; clear hr hk)
    | (go_at_call 27; refine (Fail_new HR.out HE.out).mono ?_; rintro e w2 ⟨rfl, rfl⟩))
  go_ret
  exact ⟨_, 0, rfl, Bs.ofNil _ _, Fr.ofNil _ _ _ _, HR.out.fail er, HKP.out.trans (kp_fail _ _ _ _)⟩

set_option maxHeartbeats 400000 in
theorem takeB_okT {w : World} {rb : Nat} {l : List Int} (h : Rd RB w rb l 0) (n : Int) (bs rest : List Int) (hs : Calls Try.prog 49 #[.pointer (some ⟨rb, 0, none⟩), .int .i64 n] w fun e w' => StepEnd RB w rb (0, bs, rest) e w') :
    Calls Try.prog 48 #[.pointer (some ⟨rb, 0, none⟩), .func (Fn.func 49) #[.pointer (some ⟨rb, 0, none⟩)] #[], .int .i64 n] w fun e w' => TakeEnd RB w rb (bs, rest, 0) e w' := by
  have H : Hid (Rd RB w rb l 0) := h
  have HC : Hid (Calls Try.prog 49 #[.pointer (some ⟨rb, 0, none⟩), .int .i64 n] w fun e w' => StepEnd RB w rb (0, bs, rest) e w') := hs
  clear h hs
  go_enter Try.func48, Try.ntmps48
  go_wp2_with (first
    | (go_at_call 31; refine (Err_any H.out).mono ?_; rintro e w' ⟨rfl, rfl⟩)
    | (go_at_call 49; refine (HC.out).mono ?_; rintro e w2 hst; obtain ⟨a, cap, rfl, hb, hf, hr, hk⟩ := hst; have HB := hd hb; have HF := hd hf; have HR := hd hr; have HKP := hd hk; clear hr hk hb hf))
  go_ret
  exact ⟨a, cap, rfl, HB.out, HF.out, HR.out, HKP.out⟩

theorem takeBT {w : World} {rb : Nat} {l : List Int} {e0 : Int} (h : Rd RB w rb l e0) (n : Int) (r : Int × List Int × List Int) (hs : Rd RB w rb l 0 → Calls Try.prog 49 #[.pointer (some ⟨rb, 0, none⟩), .int .i64 n] w fun e w' => StepEnd RB w rb r e w') :
    Calls Try.prog 48 #[.pointer (some ⟨rb, 0, none⟩), .func (Fn.func 49) #[.pointer (some ⟨rb, 0, none⟩)] #[], .int .i64 n] w fun e w' => TakeEnd RB w rb (bStep r l e0) e w' := by
  unfold bStep
  by_cases he : e0 ≠ 0
  · rw [if_pos he]
    refine (takeB_err h he n _).mono ?_
    rintro e w' ⟨rfl, rfl⟩
    exact ⟨_, 0, rfl, Bs.ofNil _ _, Fr.ofNil _ _ _ _, h, Kp.refl _ _⟩
  · rw [if_neg he]
    have he' : e0 = 0 := by simpa using he
    subst he'
    obtain ⟨er, bs, rest⟩ := r
    by_cases h2 : er ≠ 0
    · rw [if_pos h2]; exact takeB_badT h n er bs rest (hs h) h2
    · rw [if_neg h2]
      have h2' : er = 0 := by simpa using h2
      subst h2'
      exact takeB_okT h n bs rest (hs h)

set_option maxHeartbeats 400000 in
theorem takeB_badR {w : World} {rb : Nat} {l : List Int} (h : Rd RB w rb l 0) (n er : Int) (bs rest : List Int) (hs : Calls Try.prog 50 #[.pointer (some ⟨rb, 0, none⟩), .int .i64 n] w fun e w' => StepEnd RB w rb (er, bs, rest) e w') (he : er ≠ 0) :
    Calls Try.prog 48 #[.pointer (some ⟨rb, 0, none⟩), .func (Fn.func 50) #[.pointer (some ⟨rb, 0, none⟩)] #[], .int .i64 n] w fun e w' => TakeEnd RB w rb ([], [], er) e w' := by
  have H : Hid (Rd RB w rb l 0) := h
  have HC : Hid (Calls Try.prog 50 #[.pointer (some ⟨rb, 0, none⟩), .int .i64 n] w fun e w' => StepEnd RB w rb (er, bs, rest) e w') := hs
  have hm : (er != 0) = true := by simpa using he
  have HE : Hid (er ≠ 0) := he
  clear h he hs
  go_enter Try.func48, Try.ntmps48
  go_wp2_with (first
    | (go_at_call 31; refine (Err_any H.out).mono ?_; rintro e w' ⟨rfl, rfl⟩)
    | (go_at_call 50; refine (HC.out).mono ?_; rintro e w2 hst; have HST := hd hst; obtain ⟨a, cap, rfl, _, _, hr, hk⟩ := hst; have HR := hd hr; have HKP := hd hk; clear hr hk)
    | (go_at_call 27; refine (Fail_new HR.out HE.out).mono ?_; rintro e w2 ⟨rfl, rfl⟩))
  go_ret
  exact ⟨_, 0, rfl, Bs.ofNil _ _, Fr.ofNil _ _ _ _, HR.out.fail er, HKP.out.trans (kp_fail _ _ _ _)⟩

set_option maxHeartbeats 400000 in
theorem takeB_okR {w : World} {rb : Nat} {l : List Int} (h : Rd RB w rb l 0) (n : Int) (bs rest : List Int) (hs : Calls Try.prog 50 #[.pointer (some ⟨rb, 0, none⟩), .int .i64 n] w fun e w' => StepEnd RB w rb (0, bs, rest) e w') :
    Calls Try.prog 48 #[.pointer (some ⟨rb, 0, none⟩), .func (Fn.func 50) #[.pointer (some ⟨rb, 0, none⟩)] #[], .int .i64 n] w fun e w' => TakeEnd RB w rb (bs, rest, 0) e w' := by
  have H : Hid (Rd RB w rb l 0) := h
  have HC : Hid (Calls Try.prog 50 #[.pointer (some ⟨rb, 0, none⟩), .int .i64 n] w fun e w' => StepEnd RB w rb (0, bs, rest) e w') := hs
  clear h hs
  go_enter Try.func48, Try.ntmps48
  go_wp2_with (first
    | (go_at_call 31; refine (Err_any H.out).mono ?_; rintro e w' ⟨rfl, rfl⟩)
    | (go_at_call 50; refine (HC.out).mono ?_; rintro e w2 hst; obtain ⟨a, cap, rfl, hb, hf, hr, hk⟩ := hst; have HB := hd hb; have HF := hd hf; have HR := hd hr; have HKP := hd hk; clear hr hk hb hf))
  go_ret
  exact ⟨a, cap, rfl, HB.out, HF.out, HR.out, HKP.out⟩

theorem takeBR {w : World} {rb : Nat} {l : List Int} {e0 : Int} (h : Rd RB w rb l e0) (n : Int) (r : Int × List Int × List Int) (hs : Rd RB w rb l 0 → Calls Try.prog 50 #[.pointer (some ⟨rb, 0, none⟩), .int .i64 n] w fun e w' => StepEnd RB w rb r e w') :
    Calls Try.prog 48 #[.pointer (some ⟨rb, 0, none⟩), .func (Fn.func 50) #[.pointer (some ⟨rb, 0, none⟩)] #[], .int .i64 n] w fun e w' => TakeEnd RB w rb (bStep r l e0) e w' := by
  unfold bStep
  by_cases he : e0 ≠ 0
  · rw [if_pos he]
    refine (takeB_err h he n _).mono ?_
    rintro e w' ⟨rfl, rfl⟩
    exact ⟨_, 0, rfl, Bs.ofNil _ _, Fr.ofNil _ _ _ _, h, Kp.refl _ _⟩
  · rw [if_neg he]
    have he' : e0 = 0 := by simpa using he
    subst he'
    obtain ⟨er, bs, rest⟩ := r
    by_cases h2 : er ≠ 0
    · rw [if_pos h2]; exact takeB_badR h n er bs rest (hs h) h2
    · rw [if_neg h2]
      have h2' : er = 0 := by simpa using h2
      subst h2'
      exact takeB_okR h n bs rest (hs h)

set_option maxHeartbeats 400000 in
theorem RRaw_any {w : World} {rb : Nat} {l : List Int} {e0 : Int} (h : Rd RB w rb l e0) (n : Int) :
    Calls Try.prog 25 #[.pointer (some ⟨rb, 0, none⟩), .int .i64 n] w fun e w' => TakeEnd RB w rb (bStep (rawR n l) l e0) e w' := by
  have H : Hid (Rd RB w rb l e0) := h
  clear h
  go_enter Try.func25, Try.ntmps25
  go_wp2_with (go_at_call 48; refine (takeBR H.out n (rawR n l) (fun h => raw_step h n)).mono ?_; rintro e w2 hst; obtain ⟨a, cap, rfl, hb, hf, hr, hk⟩ := hst; have HB := hd hb; have HF := hd hf; have HR := hd hr; have HKP := hd hk; clear hr hk hb hf)
  go_ret
  exact ⟨a, cap, rfl, HB.out, HF.out, HR.out, HKP.out⟩

theorem conv_bs {A : Nat → Prop} {w : World} {v : Value} {l : List Int} (h : Bs A w v l) : (convert 22 9 v).run Try.prog w = .ok (.string (strOfNums l)) w := by
  obtain ⟨_, _, h3⟩ := h
  rcases h3 with ⟨rfl, rfl⟩ | ⟨b, off, cap, rfl, _, _, _, hcell⟩
  · exact run_convert_bytes_nil w 22 5 Try.underlying22 Try.underlying5 0 0 9 Try.underlying9
  · exact run_convert_bytes_arg w 22 5 Try.underlying22 Try.underlying5 b off l.length cap l rfl hcell 9 Try.underlying9

def TextEnd (RB : Nat) (w : World) (rb : Nat) (r : List Int × List Int × Int) (e : Ending) (w' : World) : Prop :=
  e = .returned (.string (strOfNums r.1)) ∧ Rd RB w' rb r.2.1 r.2.2 ∧ Kp (fun b => b = rb) w w'

set_option maxHeartbeats 400000 in
theorem RText_any {w : World} {rb : Nat} {l : List Int} {e0 : Int} (h : Rd RB w rb l e0) (n : Int) :
    Calls Try.prog 23 #[.pointer (some ⟨rb, 0, none⟩), .int .i64 n] w fun e w' => TextEnd RB w rb (bStep (textR n l) l e0) e w' := by
  have H : Hid (Rd RB w rb l e0) := h
  clear h
  go_enter Try.func23, Try.ntmps23
  go_wp2_with (go_at_call 48; refine (takeBT H.out n (textR n l) (fun h => text_step h n)).mono ?_; rintro e w2 hst; obtain ⟨a, cap, rfl, hb, hf, hr, hk⟩ := hst; have hcv := conv_bs hb; have HR := hd hr; have HKP := hd hk; clear hr hk hb hf)
  go_ret
  exact ⟨rfl, HR.out, HKP.out⟩

end Go.Proofs.Ytdjpdllgifdhaaa
