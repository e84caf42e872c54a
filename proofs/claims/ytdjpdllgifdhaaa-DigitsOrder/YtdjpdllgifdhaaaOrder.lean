/- DigitsOrder: for every two numbers the law answers true: no number's bytes are the beginning of another one's, and bytes stand as numbers do. -/
import Derived.Test.YtdjpdllgifdhaaaCp
import Derived.Test.YtdjpdllgifdhaaaRows
import Derived.ProofKit
import Derived.OpenShut
import Derived.ShutString
import Derived.ChangeOld
namespace Go.Proofs.Ytdjpdllgifdhaaa.digitsOrder
open Go.ChangeShapes Go.WideShapes Go.ChangeAt Go.RowKit
open Go.ChangeMaps (open_string shut_string)
set_option linter.unusedVariables false

theorem compare_is {A B : Nat → Prop} {w : World} {va vb : Value} {la lb : List Int} (ha : Bs A w va la) (hb : Bs B w vb lb) (c : Int) (hc : Num.cmpI la lb = c) :
    Calls Try.prog 36 #[va, vb] w fun e w' => e = .returned (.int .i64 c) ∧ w' = w := by
  subst hc; exact compare_any ha hb

theorem prefix_is {A B : Nat → Prop} {w : World} {va vb : Value} {la lb : List Int} (ha : Bs A w va la) (hb : Bs B w vb lb) (t : Bool) (ht : decide (la.take lb.length = lb) = t) :
    Calls Try.prog 35 #[va, vb] w fun e w' => e = .returned (.bool t) ∧ w' = w := by
  subst ht; exact prefix_any ha hb

theorem pre_no (a b : Int) (a0 : 0 ≤ a) (a1 : a < 72057594037927936) (b0 : 0 ≤ b) (b1 : b < 72057594037927936) (h : a ≠ b) : decide ((Num.enc a).take (Num.enc b).length = Num.enc b) = false := by
  rw [decide_eq_false]
  intro e
  have h2 := List.take_append_drop (Num.enc b).length (Num.enc a)
  rw [e] at h2
  exact h (Num.enc_prefix a b _ a0 a1 b0 b1 h2.symm)

set_option maxHeartbeats 2000000 in
theorem walkLt (x y a b : Int) (x0 : -9223372036854775808 ≤ x) (x1 : x ≤ 9223372036854775807) (y0 : -9223372036854775808 ≤ y) (y1 : y ≤ 9223372036854775807) (w : World) (hx : x % 9007199254740992 = a) (hy : y % 9007199254740992 = b) (a0 : 0 ≤ a) (a1 : a ≤ 9007199254740991) (b0 : 0 ≤ b) (b1 : b ≤ 9007199254740991) (hyp : a < b) :
    Calls Try.prog 7 #[.int .i64 x, .int .i64 y] w fun e w' => TrueEnd w e w' := by
  have hne : (a == b) = false := by rw [beq_eq_false_iff_ne]; omega
  have HC := hd ((Num.cmp_enc a b a0 (by omega) b0 (by omega)).1 hyp)
  have HP := hd (pre_no a b a0 (by omega) b0 (by omega) (by omega))
  have HX := hd hx
  have HY := hd hy
  clear hx hy
  go_enter Try.func7, Try.ntmps7
  go_wp2_with fail
  refine (works_true _).mono ?_
  rintro e w2 ⟨rfl, hb⟩
  have HB := hd hb
  clear hb
  go_wp2_with fail
  refine (bring_any _ _ _ x0 x1 (by omega) (by omega)).mono ?_
  rintro e w3 ⟨rfl, rfl⟩
  rw [HX.out]
  go_wp2_with fail
  refine (bring_any _ _ _ y0 y1 (by omega) (by omega)).mono ?_
  rintro e w4 ⟨rfl, rfl⟩
  rw [HY.out]
  go_wp2_with fail
  refine (U_made a _ a0 a1).mono ?_
  rintro e w5 ⟨q1, c1, rfl, hbs, hb⟩
  have HS5 := hd hbs
  have HB5 := hd (below_below HB.out hb)
  clear hbs hb HB
  go_wp2_with fail
  refine (U_made b _ b0 b1).mono ?_
  rintro e w6 ⟨q2, c2, rfl, hbs, hb⟩
  have HS6 := hd hbs
  have HT6 := hd (HS5.out.keepB hb)
  have HB6 := hd (below_below HB5.out hb)
  clear hbs hb HB5 HS5
  go_wp2_with (first
    | (go_at_call 36; refine (compare_is HT6.out HS6.out (-1) HC.out).mono ?_; rintro e w7 ⟨rfl, rfl⟩)
    | (go_at_call 35; refine (prefix_is HT6.out HS6.out false HP.out).mono ?_; rintro e w8 ⟨rfl, rfl⟩))
  go_ret
  exact ⟨rfl, HB6.out⟩

set_option maxHeartbeats 2000000 in
theorem walkEq (x y a : Int) (x0 : -9223372036854775808 ≤ x) (x1 : x ≤ 9223372036854775807) (y0 : -9223372036854775808 ≤ y) (y1 : y ≤ 9223372036854775807) (w : World) (hx : x % 9007199254740992 = a) (hy : y % 9007199254740992 = a) (a0 : 0 ≤ a) (a1 : a ≤ 9007199254740991) :
    Calls Try.prog 7 #[.int .i64 x, .int .i64 y] w fun e w' => TrueEnd w e w' := by
  have b0 := a0
  have b1 := a1
  have HC := hd ((Num.cmp_enc a a a0 (by omega) b0 (by omega)).2.1 rfl)
  have HP : Hid (decide ((Num.enc a).take (Num.enc a).length = Num.enc a) = true) := by show _ = _; simp
  have HX := hd hx
  have HY := hd hy
  clear hx hy
  go_enter Try.func7, Try.ntmps7
  go_wp2_with fail
  refine (works_true _).mono ?_
  rintro e w2 ⟨rfl, hb⟩
  have HB := hd hb
  clear hb
  go_wp2_with fail
  refine (bring_any _ _ _ x0 x1 (by omega) (by omega)).mono ?_
  rintro e w3 ⟨rfl, rfl⟩
  rw [HX.out]
  go_wp2_with fail
  refine (bring_any _ _ _ y0 y1 (by omega) (by omega)).mono ?_
  rintro e w4 ⟨rfl, rfl⟩
  rw [HY.out]
  go_wp2_with fail
  refine (U_made a _ a0 a1).mono ?_
  rintro e w5 ⟨q1, c1, rfl, hbs, hb⟩
  have HS5 := hd hbs
  have HB5 := hd (below_below HB.out hb)
  clear hbs hb HB
  go_wp2_with fail
  refine (U_made a _ b0 b1).mono ?_
  rintro e w6 ⟨q2, c2, rfl, hbs, hb⟩
  have HS6 := hd hbs
  have HT6 := hd (HS5.out.keepB hb)
  have HB6 := hd (below_below HB5.out hb)
  clear hbs hb HB5 HS5
  go_wp2_with (first
    | (go_at_call 36; refine (compare_is HT6.out HS6.out (0) HC.out).mono ?_; rintro e w7 ⟨rfl, rfl⟩)
    | (go_at_call 35; refine (prefix_is HT6.out HS6.out true HP.out).mono ?_; rintro e w8 ⟨rfl, rfl⟩))
  go_ret
  exact ⟨rfl, HB6.out⟩

set_option maxHeartbeats 2000000 in
theorem walkGt (x y a b : Int) (x0 : -9223372036854775808 ≤ x) (x1 : x ≤ 9223372036854775807) (y0 : -9223372036854775808 ≤ y) (y1 : y ≤ 9223372036854775807) (w : World) (hx : x % 9007199254740992 = a) (hy : y % 9007199254740992 = b) (a0 : 0 ≤ a) (a1 : a ≤ 9007199254740991) (b0 : 0 ≤ b) (b1 : b ≤ 9007199254740991) (hyp : b < a) :
    Calls Try.prog 7 #[.int .i64 x, .int .i64 y] w fun e w' => TrueEnd w e w' := by
  have hne : (a == b) = false := by rw [beq_eq_false_iff_ne]; omega
  have hnl : decide (a < b) = false := by rw [decide_eq_false_iff_not]; omega
  have HC := hd ((Num.cmp_enc a b a0 (by omega) b0 (by omega)).2.2 hyp)
  have HP := hd (pre_no a b a0 (by omega) b0 (by omega) (by omega))
  have HX := hd hx
  have HY := hd hy
  clear hx hy
  go_enter Try.func7, Try.ntmps7
  go_wp2_with fail
  refine (works_true _).mono ?_
  rintro e w2 ⟨rfl, hb⟩
  have HB := hd hb
  clear hb
  go_wp2_with fail
  refine (bring_any _ _ _ x0 x1 (by omega) (by omega)).mono ?_
  rintro e w3 ⟨rfl, rfl⟩
  rw [HX.out]
  go_wp2_with fail
  refine (bring_any _ _ _ y0 y1 (by omega) (by omega)).mono ?_
  rintro e w4 ⟨rfl, rfl⟩
  rw [HY.out]
  go_wp2_with fail
  refine (U_made a _ a0 a1).mono ?_
  rintro e w5 ⟨q1, c1, rfl, hbs, hb⟩
  have HS5 := hd hbs
  have HB5 := hd (below_below HB.out hb)
  clear hbs hb HB
  go_wp2_with fail
  refine (U_made b _ b0 b1).mono ?_
  rintro e w6 ⟨q2, c2, rfl, hbs, hb⟩
  have HS6 := hd hbs
  have HT6 := hd (HS5.out.keepB hb)
  have HB6 := hd (below_below HB5.out hb)
  clear hbs hb HB5 HS5
  go_wp2_with (first
    | (go_at_call 36; refine (compare_is HT6.out HS6.out (1) HC.out).mono ?_; rintro e w7 ⟨rfl, rfl⟩)
    | (go_at_call 35; refine (prefix_is HT6.out HS6.out false HP.out).mono ?_; rintro e w8 ⟨rfl, rfl⟩))
  go_ret
  exact ⟨rfl, HB6.out⟩

theorem walk (x : Int) (wx : (Lit.int .i64 x).wf = true) (y : Int) (wy : (Lit.int .i64 y).wf = true) (w : World) :
    Calls Try.prog 7 #[.int .i64 x, .int .i64 y] w fun e w' => e = .returned (.bool true) ∧ Below w.heap.size w w' := by
  obtain ⟨x0, x1⟩ := bounds_i64 wx
  obtain ⟨y0, y1⟩ := bounds_i64 wy
  obtain ⟨a, ha⟩ : ∃ a, x % 9007199254740992 = a := ⟨_, rfl⟩
  obtain ⟨b, hb⟩ : ∃ b, y % 9007199254740992 = b := ⟨_, rfl⟩
  have h : a < b ∨ a = b ∨ b < a := by omega
  rcases h with h | h | h
  · exact walkLt x y a b x0 x1 y0 y1 w ha hb (by omega) (by omega) (by omega) (by omega) h
  · subst h; exact walkEq x y a x0 x1 y0 y1 w ha hb (by omega) (by omega)
  · exact walkGt x y a b x0 x1 y0 y1 w ha hb (by omega) (by omega) (by omega) (by omega) h

theorem own : ownKnob Try.prog.godebug = none := by kernel_rfl
theorem laidOut : laidOutB Try.prog = true := by kernel_rfl

set_option maxRecDepth 100000 in
theorem lifted (os : Os) (started : os.Started) (H : Type) (enc : TypeId × Value → H) :
    ReturnsInHanded {} Try.checked os 7 .any (Rows.digitsOrderSpec.pre6 enc Try.prog Try.f7 Rows.digitsOrderRow.domain false) (Rows.digitsOrderSpec.post enc Try.prog Try.f7 false true false false) := by
  refine returnsInHanded_of_change (C := Try.checked) own started (by kernel_rfl) Try.func7
    (ChangeSpec.witness6 (enc := enc) (C := Try.checked) false ⟨#[], #[.int .i64 0, .int .i64 0], []⟩ 8 (by kernel_rfl) (by kernel_rfl) (by kernel_rfl) (by kernel_rfl)) ?_
  intro W base args ds gs before hval0 hW hcnd _
  have hval : ∀ (j : Nat) t v, Try.f7.params[j]? = some t → args[j]? = some v → Value.okWide Try.prog W .any base t v := hval0
  have hW' := hW
  obtain ⟨p, q, hA0, hV, rfl, hfz, hnd⟩ := hW
  have hA : DataW.TrodAll enc Try.prog W 0 (fun _ => true) true Try.f7.params.toList args.toList ds p := hA0
  rw [Try.params7] at hA hval
  obtain ⟨v0, vs0, d0, ds0, p0, q0, hargs, rfl, rfl, h0, r0⟩ := trodAll_cons hA
  obtain ⟨v1, vs1, d1, ds1, p1, q1, rfl, rfl, rfl, h1, r1⟩ := trodAll_cons r0
  obtain ⟨rfl, rfl, rfl⟩ := trodAll_nil r1
  obtain rfl : args = #[v0, v1] := by cases args; simp_all
  obtain ⟨rfl, rfl⟩ := trodVars_none hV
  obtain ⟨a0, rfl, rfl, rfl, w0⟩ := open_int Try.underlying3 (hval 0 3 v0 rfl rfl) h0
  obtain ⟨a1, rfl, rfl, rfl, w1⟩ := open_int Try.underlying3 (hval 1 3 v1 rfl rfl) h1
  clear hA0 hval0
  refine (walk a0 w0 a1 w1 W).mono fun e W' ⟨he, bel⟩ => ?_
  subst he
  exact ⟨_, rfl, _, _, _, [], _, [], hW', trodAll_mk1 (shut_bool Try.underlying4 _), (trodAll_cons_mk (shut_int Try.underlying3 w0) (trodAll_cons_mk (shut_int Try.underlying3 w1) trodAll_mk0)), rfl, bel.frame _, fun h => by cases h⟩

theorem over : Rows.digitsOrderRow.holds Try.pinned (OpenSpec.ofChange Rows.digitsOrderSpec) :=
  OpenClaim.holds_of_wide 7 Try.f7 rfl rfl rfl rfl rfl rfl rfl ⟨rfl, rfl, rfl, rfl, rfl⟩ rfl rfl rfl rfl rfl (by kernel_rfl) Try.func7 (by kernel_rfl)
    (of_decide_eq_true (by kernel_rfl)) (by unfold Func.isWrapper; first | (rw [if_pos (by decide +kernel)]; kernel_rfl) | (rw [if_neg (by decide +kernel)]; exact ⟨rfl, rfl⟩))
    (fun os started H enc _ => lifted os started H enc)

end Go.Proofs.Ytdjpdllgifdhaaa.digitsOrder
namespace Go.Proofs.Ytdjpdllgifdhaaa

/-- The statement. -/
theorem digitsOrder_proved : Rows.DigitsOrderSaid := digitsOrder.over
#print axioms digitsOrder_proved
end Go.Proofs.Ytdjpdllgifdhaaa
