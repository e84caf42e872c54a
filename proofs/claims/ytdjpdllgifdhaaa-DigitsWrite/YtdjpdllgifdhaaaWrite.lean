/- DigitsWrite: for every number and text the law answers true: U, S and Text answer as the chapter says. -/
import Derived.Test.YtdjpdllgifdhaaaRg
import Derived.Test.YtdjpdllgifdhaaaRows
import Derived.ProofKit
import Derived.OpenShut
import Derived.ShutString
import Derived.ChangeOld
namespace Go.Proofs.Ytdjpdllgifdhaaa.digitsWrite
open Go.ChangeShapes Go.WideShapes Go.ChangeAt Go.RowKit
open Go.ChangeMaps (open_string shut_string)
set_option linter.unusedVariables false

/-- What a call that writes answers: the bytes, an error, in memory that is new. -/
def WroteEnd (w : World) (l : List Int) (er : Int) (k : Nat) (e : Ending) (w' : World) : Prop :=
  ∃ a cap, e = .returned (.tuple #[.slice a k cap, .int .i64 er]) ∧ Bs (fun b => w.heap.size ≤ b) w' (.slice a k cap) l ∧ Below w.heap.size w w'

theorem wrote {w w' : World} {l : List Int} {e : Ending} (h : MadeEnd w l e w') : WroteEnd w l 0 l.length e w' := h

theorem wrote_none {w w' : World} {er : Int} {e : Ending} (h : e = .returned (.tuple #[.slice none 0 0, .int .i64 er]) ∧ w' = w) : WroteEnd w [] er 0 e w' := by
  obtain ⟨rfl, rfl⟩ := h
  exact ⟨none, 0, rfl, Bs.ofNil _ _, Below.refl _ _⟩

theorem eq_sameB {A B : Nat → Prop} {w : World} {va vb : Value} {l : List Int} (ha : Bs A w va l) (hb : Bs B w vb l) :
    Calls Try.prog 15 #[va, vb] w fun e w' => TrueEnd w e w' := by
  refine (eq_same ha hb).mono ?_
  rintro e w' ⟨rfl, m, rfl⟩
  exact ⟨rfl, below_drewN (Below.refl _ _) m⟩

theorem U_both (n : Int) : ∃ l er, (∀ w, Calls Try.prog 9 #[.int .i64 n] w fun e w' => WroteEnd w l er l.length e w') ∧ (∀ w, Calls Try.prog 10 #[.int .i64 n] w fun e w' => WroteEnd w l er l.length e w') := by
  by_cases h0 : n < 0
  · exact ⟨[], 9, fun w => (U_low n w h0).mono (fun e w' h => wrote_none h), fun w => (rU_low n w h0).mono (fun e w' h => wrote_none h)⟩
  · by_cases h1 : 9007199254740991 < n
    · exact ⟨[], 9, fun w => (U_high n w h1).mono (fun e w' h => wrote_none h), fun w => (rU_high n w h1).mono (fun e w' h => wrote_none h)⟩
    · exact ⟨Num.enc n, 0, fun w => (U_made n w (by omega) (by omega)).mono (fun e w' h => wrote h), fun w => (rU_made n w (by omega) (by omega)).mono (fun e w' h => wrote h)⟩

theorem S_both (n : Int) : ∃ l er, (∀ w, Calls Try.prog 11 #[.int .i64 n] w fun e w' => WroteEnd w l er l.length e w') ∧ (∀ w, Calls Try.prog 12 #[.int .i64 n] w fun e w' => WroteEnd w l er l.length e w') := by
  by_cases h0 : n < -9007199254740991
  · exact ⟨[], 9, fun w => (S_low n w h0).mono (fun e w' h => wrote_none h), fun w => (rS_low n w h0).mono (fun e w' h => wrote_none h)⟩
  · by_cases h1 : 9007199254740991 < n
    · exact ⟨[], 9, fun w => (S_high n w h1).mono (fun e w' h => wrote_none h), fun w => (rS_high n w h1).mono (fun e w' h => wrote_none h)⟩
    · exact ⟨Num.enc (foldI n), 0, fun w => (S_made n w (by omega) (by omega)).mono (fun e w' h => wrote h), fun w => (rS_made n w (by omega) (by omega)).mono (fun e w' h => wrote h)⟩

theorem T_both (s : ByteArray) : ∃ l er, (∀ w, Calls Try.prog 13 #[.string s] w fun e w' => WroteEnd w l er l.length e w') ∧ (∀ w, Calls Try.prog 14 #[.string s] w fun e w' => WroteEnd w l er l.length e w') := by
  by_cases h0 : 65535 < s.size
  · exact ⟨[], 5, fun w => (Text_much s w h0).mono (fun e w' h => wrote_none h), fun w => (rText_much s w h0).mono (fun e w' h => wrote_none h)⟩
  · exact ⟨_, 0, fun w => (Text_ok s w (by omega)).mono (fun e w' h => wrote h), fun w => (rText_ok s w (by omega)).mono (fun e w' h => wrote h)⟩

set_option maxHeartbeats 4000000 in
theorem walk (n : Int) (wn : (Lit.int .i64 n).wf = true) (s : ByteArray) (ws : s.size ≤ maxLen) (w : World) :
    Calls Try.prog 3 #[.int .i64 n, .string s] w fun e w' => TrueEnd w e w' := by
  obtain ⟨l1, r1, ua, ub⟩ := U_both n
  obtain ⟨l2, r2, sa, sb⟩ := S_both n
  obtain ⟨l3, r3, ta, tb⟩ := T_both s
  have UA := hd ua
  have UB := hd ub
  have SA := hd sa
  have SB := hd sb
  have TA := hd ta
  have TB := hd tb
  clear ua ub sa sb ta tb wn ws
  generalize l1.length = k1 at UA UB
  generalize l2.length = k2 at SA SB
  generalize l3.length = k3 at TA TB
  go_enter Try.func3, Try.ntmps3
  go_wp2_with fail
  refine (UA.out _).mono ?_
  rintro e w1 ⟨q1a, c1a, rfl, hb, hk⟩
  have Bw1 := hd hk
  have P1av0 := hd hb
  clear hb hk 
  go_wp2_with fail
  refine (UB.out _).mono ?_
  rintro e w2 ⟨q1b, c1b, rfl, hb, hk⟩
  have Bw2 := hd (below_below Bw1.out hk)
  have P1av1 := hd (P1av0.out.keepB hk)
  have P1bv1 := hd hb
  clear hb hk P1av0 Bw1
  go_wp2_with fail
  refine (SA.out _).mono ?_
  rintro e w3 ⟨q2a, c2a, rfl, hb, hk⟩
  have Bw3 := hd (below_below Bw2.out hk)
  have P1av2 := hd (P1av1.out.keepB hk)
  have P1bv2 := hd (P1bv1.out.keepB hk)
  have P2av2 := hd hb
  clear hb hk P1av1 P1bv1 Bw2
  go_wp2_with fail
  refine (SB.out _).mono ?_
  rintro e w4 ⟨q2b, c2b, rfl, hb, hk⟩
  have Bw4 := hd (below_below Bw3.out hk)
  have P1av3 := hd (P1av2.out.keepB hk)
  have P1bv3 := hd (P1bv2.out.keepB hk)
  have P2av3 := hd (P2av2.out.keepB hk)
  have P2bv3 := hd hb
  clear hb hk P1av2 P1bv2 P2av2 Bw3
  go_wp2_with fail
  refine (TA.out _).mono ?_
  rintro e w5 ⟨q3a, c3a, rfl, hb, hk⟩
  have Bw5 := hd (below_below Bw4.out hk)
  have P1av4 := hd (P1av3.out.keepB hk)
  have P1bv4 := hd (P1bv3.out.keepB hk)
  have P2av4 := hd (P2av3.out.keepB hk)
  have P2bv4 := hd (P2bv3.out.keepB hk)
  have P3av4 := hd hb
  clear hb hk P1av3 P1bv3 P2av3 P2bv3 Bw4
  go_wp2_with fail
  refine (TB.out _).mono ?_
  rintro e w6 ⟨q3b, c3b, rfl, hb, hk⟩
  have Bw6 := hd (below_below Bw5.out hk)
  have P1av5 := hd (P1av4.out.keepB hk)
  have P1bv5 := hd (P1bv4.out.keepB hk)
  have P2av5 := hd (P2av4.out.keepB hk)
  have P2bv5 := hd (P2bv4.out.keepB hk)
  have P3av5 := hd (P3av4.out.keepB hk)
  have P3bv5 := hd hb
  clear hb hk P1av4 P1bv4 P2av4 P2bv4 P3av4 Bw5
  go_wp2_with fail
  refine (eq_sameB P1av5.out P1bv5.out).mono ?_
  rintro e x1 ⟨rfl, hk⟩
  have BX1 := hd (below_below Bw6.out hk)
  have P2ax1 := hd (P2av5.out.keepB hk)
  have P2bx1 := hd (P2bv5.out.keepB hk)
  have P3ax1 := hd (P3av5.out.keepB hk)
  have P3bx1 := hd (P3bv5.out.keepB hk)
  clear hk
  go_wp2_with fail
  refine (eq_sameB P2ax1.out P2bx1.out).mono ?_
  rintro e x2 ⟨rfl, hk⟩
  have BX2 := hd (below_below BX1.out hk)
  have P3ax2 := hd (P3ax1.out.keepB hk)
  have P3bx2 := hd (P3bx1.out.keepB hk)
  clear hk
  go_wp2_with fail
  refine (eq_sameB P3ax2.out P3bx2.out).mono ?_
  rintro e x3 ⟨rfl, hk⟩
  have BX3 := hd (below_below BX2.out hk)
  clear hk
  go_wp2_with fail
  refine (works_true _).mono ?_
  rintro e x4 ⟨rfl, hk⟩
  have BX4 := hd (below_below BX3.out hk)
  clear hk
  go_wp2
  go_ret
  exact ⟨rfl, BX4.out⟩

theorem own : ownKnob Try.prog.godebug = none := by kernel_rfl
theorem laidOut : laidOutB Try.prog = true := by kernel_rfl

set_option maxRecDepth 100000 in
theorem lifted (os : Os) (started : os.Started) (H : Type) (enc : TypeId × Value → H) :
    ReturnsInHanded {} Try.checked os 3 .any (Rows.digitsWriteSpec.pre6 enc Try.prog Try.f3 Rows.digitsWriteRow.domain false) (Rows.digitsWriteSpec.post enc Try.prog Try.f3 false true false false) := by
  refine returnsInHanded_of_change (C := Try.checked) own started (by kernel_rfl) Try.func3
    (ChangeSpec.witness6 (enc := enc) (C := Try.checked) false ⟨#[], #[.int .i64 0, .string ByteArray.empty], []⟩ 8 (by kernel_rfl) (by kernel_rfl) (by kernel_rfl) (by kernel_rfl)) ?_
  intro W base args ds gs before hval0 hW hcnd _
  have hval : ∀ (j : Nat) t v, Try.f3.params[j]? = some t → args[j]? = some v → Value.okWide Try.prog W .any base t v := hval0
  have hW' := hW
  obtain ⟨p, q, hA0, hV, rfl, hfz, hnd⟩ := hW
  have hA : DataW.TrodAll enc Try.prog W 0 (fun _ => true) true Try.f3.params.toList args.toList ds p := hA0
  rw [Try.params3] at hA hval
  obtain ⟨v0, vs0, d0, ds0, p0, q0, hargs, rfl, rfl, h0, r0⟩ := trodAll_cons hA
  obtain ⟨v1, vs1, d1, ds1, p1, q1, rfl, rfl, rfl, h1, r1⟩ := trodAll_cons r0
  obtain ⟨rfl, rfl, rfl⟩ := trodAll_nil r1
  obtain rfl : args = #[v0, v1] := by cases args; simp_all
  obtain ⟨rfl, rfl⟩ := trodVars_none hV
  obtain ⟨a0, rfl, rfl, rfl, w0⟩ := open_int Try.underlying3 (hval 0 3 v0 rfl rfl) h0
  obtain ⟨a1, rfl, rfl, rfl, w1⟩ := open_string Try.underlying9 (hval 1 9 v1 rfl rfl) h1
  clear hA0 hval0
  refine (walk a0 w0 a1 w1 W).mono fun e W' ⟨he, bel⟩ => ?_
  subst he
  exact ⟨_, rfl, _, _, _, [], _, [], hW', trodAll_mk1 (shut_bool Try.underlying4 _), (trodAll_cons_mk (shut_int Try.underlying3 w0) (trodAll_cons_mk (shut_string Try.underlying9 w1) trodAll_mk0)), rfl, bel.frame _, fun h => by cases h⟩

theorem over : Rows.digitsWriteRow.holds Try.pinned (OpenSpec.ofChange Rows.digitsWriteSpec) :=
  OpenClaim.holds_of_wide 3 Try.f3 rfl rfl rfl rfl rfl rfl rfl ⟨rfl, rfl, rfl, rfl, rfl⟩ rfl rfl rfl rfl rfl (by kernel_rfl) Try.func3 (by kernel_rfl)
    (of_decide_eq_true (by kernel_rfl)) (by unfold Func.isWrapper; first | (rw [if_pos (by decide +kernel)]; kernel_rfl) | (rw [if_neg (by decide +kernel)]; exact ⟨rfl, rfl⟩))
    (fun os started H enc _ => lifted os started H enc)

end Go.Proofs.Ytdjpdllgifdhaaa.digitsWrite
namespace Go.Proofs.Ytdjpdllgifdhaaa

/-- The statement. -/
theorem digitsWrite_proved : Rows.DigitsWriteSaid := digitsWrite.over
#print axioms digitsWrite_proved
end Go.Proofs.Ytdjpdllgifdhaaa
