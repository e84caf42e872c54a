/- The examples' helpers answer true where the bytes are right. -/
import Derived.Test.YtdjpdllgifdhaaaTx
import Derived.Test.YtdjpdllgifdhaaaTe
import Derived.Test.YtdjpdllgifdhaaaEq
namespace Go.Proofs.Ytdjpdllgifdhaaa
open Go.RowKit
variable {RB : Nat}
set_option linter.unusedVariables false

def TrueEnd (w : World) (e : Ending) (w' : World) : Prop := e = .returned (.bool true) ∧ Below w.heap.size w w'

theorem below_kp {w w1 w2 : World} {rb : Nat} (h : Below w.heap.size w w1) (hr : w.heap.size ≤ rb) (k : Kp (fun b => b = rb) w1 w2) : Below w.heap.size w w2 :=
  h.trans (k.below w.heap.size h.size (fun i hi e => by omega))

theorem below_drewN {w w1 : World} {B : Nat} (h : Below B w w1) (n : Nat) : Below B w (w1.drewN n) := h.trans ⟨rfl, rfl, rfl, Nat.le_refl _, fun _ _ => rfl⟩

theorem below_below {w w1 w2 : World} (h : Below w.heap.size w w1) (k : Below w1.heap.size w1 w2) : Below w.heap.size w w2 := h.trans (k.mono h.size)

theorem Bs.keepB {A : Nat → Prop} {w w' : World} {v : Value} {l : List Int} (h : Bs A w v l) (k : Below w.heap.size w w') : Bs A w' v l :=
  h.keep (kpB k (fun _ => False)) (fun _ _ _ h => h)

theorem U_made (n : Int) (w : World) (h0 : 0 ≤ n) (h1 : n ≤ 9007199254740991) :
    Calls Try.prog 9 #[.int .i64 n] w fun e w' => MadeEnd w (Num.enc n) e w' := by
  refine (U_ok n w h0 h1).mono ?_
  rintro e w' ⟨rfl, rfl⟩
  have hl := Num.enc_length n
  have h8 := Num.sz_bd n h0
  exact ⟨_, _, rfl, (Bs.fresh0 w _ 5 _ (enc_byt n h0 (by omega)) (by omega) (Nat.le_refl _) _ (Nat.le_refl _)).drew, ((Below.refl _ _).alloc (Nat.le_refl _) _).drew⟩

theorem S_made (n : Int) (w : World) (h0 : -9007199254740991 ≤ n) (h1 : n ≤ 9007199254740991) :
    Calls Try.prog 11 #[.int .i64 n] w fun e w' => MadeEnd w (Num.enc (foldI n)) e w' := by
  have hf := foldI_bd n h0 h1
  refine (S_ok n w h0 h1).mono ?_
  rintro e w' ⟨rfl, rfl⟩
  have hl := Num.enc_length (foldI n)
  have h8 := Num.sz_bd (foldI n) hf.1
  exact ⟨_, _, rfl, (Bs.fresh0 w _ 5 _ (enc_byt (foldI n) hf.1 (by omega)) (by omega) (Nat.le_refl _) _ (Nat.le_refl _)).drew, ((Below.refl _ _).alloc (Nat.le_refl _) _).drew⟩

theorem eq_same {A B : Nat → Prop} {w : World} {va vb : Value} {l : List Int} (ha : Bs A w va l) (hb : Bs B w vb l) :
    Calls Try.prog 15 #[va, vb] w fun e w' => e = .returned (.bool true) ∧ ∃ m, w' = w.drewN m := by
  refine (eq_any ha hb).mono ?_
  rintro e w' ⟨rfl, m, rfl⟩
  exact ⟨by rw [decide_eq_true rfl], m, rfl⟩

theorem Left_zero {w : World} {rb : Nat} (h : Rd RB w rb [] 0) :
    Calls Try.prog 32 #[.pointer (some ⟨rb, 0, none⟩)] w fun e w' => e = .returned (.int .i64 0) ∧ w' = w := Left_ok h

set_option maxHeartbeats 1000000 in
theorem u_true {A : Nat → Prop} {w : World} {v : Value} {n : Int} (h : Bs A w v (Num.enc n)) (h0 : 0 ≤ n) (h1 : n ≤ 9007199254740991) (hs : uStep 9007199254740991 (Num.enc n) 0 = (n, [], 0)) :
    Calls Try.prog 40 #[.int .i64 n, v] w fun e w' => TrueEnd w e w' := by
  have H : Hid (Bs A w v (Num.enc n)) := h
  have HS := hd hs
  clear h hs
  go_enter Try.func40, Try.ntmps40
  go_wp2_with (first
    | (go_at_call 9; refine (U_made n _ h0 h1).mono ?_; rintro e w1 ⟨a, cap, rfl, hb, hk⟩; have HB := hd hb; have HK := hd hk; clear hb hk)
    | (go_at_call 18; refine (New_any (H.out.keepB HK.out)).mono ?_; rintro e w2 ⟨rb, rfl, hrb, hr, hk⟩; have HRB := hd hrb; have HR := hd hr; have HK2 := hd hk; clear hrb hr hk)
    | (go_at_call 15; refine (eq_same (HB.out.keepB HK2.out) ((H.out.keepB HK.out).keepB HK2.out)).mono ?_; rintro e w3 ⟨rfl, m, rfl⟩)
    | (go_at_call 29; refine (RU_is (HR.out.drewN m) n HS.out).mono ?_; rintro e w4 ⟨rfl, hr, hk⟩; have HR4 := hd hr; have HK4 := hd hk; clear hr hk)
    | (go_at_call 31; refine (Err_any HR4.out).mono ?_; rintro e w5 ⟨rfl, rfl⟩)
    | (go_at_call 32; refine (Left_zero HR4.out).mono ?_; rintro e w6 ⟨rfl, rfl⟩))
  go_ret
  exact ⟨rfl, below_kp (below_drewN (below_below HK.out HK2.out) m) (Nat.le_trans HK.out.size HRB.out) HK4.out⟩

set_option maxHeartbeats 1000000 in
theorem s_true {A : Nat → Prop} {w : World} {v : Value} {n : Int} (h : Bs A w v (Num.enc (foldI n))) (h0 : -9007199254740991 ≤ n) (h1 : n ≤ 9007199254740991) (hs : uStep 18014398509481982 (Num.enc (foldI n)) 0 = (foldI n, [], 0)) :
    Calls Try.prog 41 #[.int .i64 n, v] w fun e w' => TrueEnd w e w' := by
  have H : Hid (Bs A w v (Num.enc (foldI n))) := h
  have HS := hd hs
  have hrs : ∀ {RB : Nat} {w : World} {rb : Nat} (h : Rd RB w rb (Num.enc (foldI n)) 0), Calls Try.prog 21 #[.pointer (some ⟨rb, 0, none⟩)] w fun e w' => e = .returned (.int .i64 n) ∧ Rd RB w' rb [] 0 ∧ Kp (fun b => b = rb) w w' := by
    intro RB w rb h
    have := RS_is h (foldI n) hs
    rw [unfold_fold] at this
    exact this
  have HRS : Hid (∀ {RB : Nat} {w : World} {rb : Nat} (h : Rd RB w rb (Num.enc (foldI n)) 0), Calls Try.prog 21 #[.pointer (some ⟨rb, 0, none⟩)] w fun e w' => e = .returned (.int .i64 n) ∧ Rd RB w' rb [] 0 ∧ Kp (fun b => b = rb) w w') := hrs
  clear h hs hrs
  go_enter Try.func41, Try.ntmps41
  go_wp2_with (first
    | (go_at_call 11; refine (S_made n _ h0 h1).mono ?_; rintro e w1 ⟨a, cap, rfl, hb, hk⟩; have HB := hd hb; have HK := hd hk; clear hb hk)
    | (go_at_call 18; refine (New_any (H.out.keepB HK.out)).mono ?_; rintro e w2 ⟨rb, rfl, hrb, hr, hk⟩; have HRB := hd hrb; have HR := hd hr; have HK2 := hd hk; clear hrb hr hk)
    | (go_at_call 15; refine (eq_same (HB.out.keepB HK2.out) ((H.out.keepB HK.out).keepB HK2.out)).mono ?_; rintro e w3 ⟨rfl, m, rfl⟩)
    | (go_at_call 21; refine (HRS.out (HR.out.drewN m)).mono ?_; rintro e w4 ⟨rfl, hr, hk⟩; have HR4 := hd hr; have HK4 := hd hk; clear hr hk)
    | (go_at_call 31; refine (Err_any HR4.out).mono ?_; rintro e w5 ⟨rfl, rfl⟩)
    | (go_at_call 32; refine (Left_zero HR4.out).mono ?_; rintro e w6 ⟨rfl, rfl⟩))
  go_ret
  exact ⟨rfl, below_kp (below_drewN (below_below HK.out HK2.out) m) (Nat.le_trans HK.out.size HRB.out) HK4.out⟩

set_option maxHeartbeats 1000000 in
theorem fails_true {A : Nat → Prop} {w : World} {v : Value} {l : List Int} {er : Int} (h : Bs A w v l) (he : er ≠ 0) (hs : uStep 9007199254740991 l 0 = (0, [], er)) :
    Calls Try.prog 42 #[.int .i64 er, v] w fun e w' => TrueEnd w e w' := by
  have H : Hid (Bs A w v l) := h
  have HS := hd hs
  have HE : Hid (er ≠ 0) := he
  clear h hs he
  go_enter Try.func42, Try.ntmps42
  go_wp2_with (first
    | (go_at_call 18; refine (New_any H.out).mono ?_; rintro e w2 ⟨rb, rfl, hrb, hr, hk⟩; have HRB := hd hrb; have HR := hd hr; have HK2 := hd hk; clear hrb hr hk)
    | (go_at_call 29; refine (RU_is HR.out 0 HS.out).mono ?_; rintro e w4 ⟨rfl, hr, hk⟩; have HR4 := hd hr; have HK4 := hd hk; clear hr hk)
    | (go_at_call 31; refine (Err_any HR4.out).mono ?_; rintro e w5 ⟨rfl, rfl⟩)
    | (go_at_call 32; refine (Left_bad HR4.out HE.out).mono ?_; rintro e w6 ⟨rfl, rfl⟩))
  go_ret
  exact ⟨rfl, below_kp HK2.out HRB.out HK4.out⟩

end Go.Proofs.Ytdjpdllgifdhaaa
