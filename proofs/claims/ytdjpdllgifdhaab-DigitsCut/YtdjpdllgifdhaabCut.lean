/- DigitsCut: for every number, text and place the law answers true: of bytes that are cut a reader tells ErrTrunc, and then nothing any more. -/
import Derived.Test.YtdjpdllgifdhaabBr
import Derived.Test.YtdjpdllgifdhaabKr
import Derived.Test.YtdjpdllgifdhaabRows
import Derived.ProofKit
import Derived.OpenShut
import Derived.ShutString
import Derived.ChangeOld
namespace Go.Proofs.Ytdjpdllgifdhaab.digitsCut
open Go.ChangeShapes Go.WideShapes Go.ChangeAt Go.RowKit
open Go.ChangeMaps (open_string shut_string)
set_option linter.unusedVariables false

theorem num_cut (most k : Int) (j : Nat) (h0 : 0 ≤ k) (h1 : k < 72057594037927936) (hm : k ≤ most) (hj : j < (Num.enc k).length) : Num.num most ((Num.enc k).take j) = (0, 3, 0) := by
  have hn := Num.num_enc most k [] h0 h1 hm
  rw [List.append_nil] at hn
  have hl := Num.enc_length k
  unfold Num.num
  by_cases hz : ((Num.enc k).take j).length = 0
  · rw [if_pos hz]
  · rw [if_neg hz]
    have hjl : ((Num.enc k).take j).length = j := by rw [List.length_take]; omega
    have hg : ((Num.enc k).take j).getD 0 0 = (Num.enc k).getD 0 0 := by
      rw [List.getD_eq_getElem?_getD, List.getD_eq_getElem?_getD, List.getElem?_take, if_pos (by omega)]
    have ht : Num.told ((Num.enc k).getD 0 0) = Num.sz k ∧ Num.sz k ≤ 8 := by
      have hb := Num.told_bd ((Num.enc k).getD 0 0)
      unfold Num.num at hn
      split at hn
      · simp at hn
      split at hn
      · simp at hn
      split at hn
      · simp at hn
      split at hn
      · simp at hn
      · simp only [Prod.mk.injEq, true_and] at hn
        have h8 := Num.sz_bd k h0
        exact ⟨hn.2, h8.2⟩
    rw [hg, if_neg (by omega), if_pos (by omega)]

theorem uStep_cut (most k : Int) (j : Nat) (h0 : 0 ≤ k) (h1 : k < 72057594037927936) (hm : k ≤ most) (hj : j < (Num.enc k).length) : uStep most ((Num.enc k).take j) 0 = (0, [], 3) := by
  unfold uStep
  rw [if_neg (by omega), num_cut most k j h0 h1 hm hj, if_pos (by decide)]

theorem bStep_cut (t : ByteArray) (j : Nat) (ht : t.size ≤ 1000) (hj : j < (Num.enc t.size ++ bytesOf t).length) :
    bStep (textR 1000 ((Num.enc t.size ++ bytesOf t).take j)) ((Num.enc t.size ++ bytesOf t).take j) 0 = ([], [], 3) := by
  have hl := Num.enc_length t.size
  have hbl := bytesOf_length t
  rw [List.length_append] at hj
  have hr : (textR 1000 ((Num.enc t.size ++ bytesOf t).take j)).1 = 3 := by
    by_cases hs : j < (Num.enc t.size).length
    · have e : (Num.enc t.size ++ bytesOf t).take j = (Num.enc t.size).take j := by rw [List.take_append_of_le_length (by omega)]
      rw [e]
      unfold textR
      rw [num_cut _ t.size j (by omega) (by omega) (by omega) hs]
      simp
    · have e : (Num.enc t.size ++ bytesOf t).take j = Num.enc t.size ++ (bytesOf t).take (j - (Num.enc t.size).length) := by
        rw [List.take_append, List.take_of_length_le (by omega)]
      rw [e]
      unfold textR
      rw [Num.num_enc _ t.size _ (by omega) (by omega) (by omega)]
      simp only [ne_eq, not_true_eq_false, if_false]
      rw [if_neg (by omega), ← hl, List.drop_left]
      unfold rawR
      rw [if_neg (by omega), if_pos (by rw [List.length_take]; omega)]
  unfold bStep
  rw [if_neg (by omega), hr, if_pos (by decide)]

theorem RS_zero {RB : Nat} {w : World} {rb : Nat} (h : Rd RB w rb [] 3) :
    Calls Try.prog 11 #[.pointer (some ⟨rb, 0, none⟩)] w fun e w' => e = .returned (.int .i64 0) ∧ Rd RB w' rb [] 3 ∧ Kp (fun b => b = rb) w w' := RS_is h 0 rfl

theorem RRaw_zero {RB : Nat} {w : World} {rb : Nat} (h : Rd RB w rb [] 3) :
    Calls Try.prog 13 #[.pointer (some ⟨rb, 0, none⟩), .int .i64 0] w fun e w' => ∃ a cap, e = .returned (.slice a 0 cap) ∧ Rd RB w' rb [] 3 ∧ Kp (fun b => b = rb) w w' := by
  refine (RRaw_any h 0).mono ?_
  rintro e w' ⟨a, cap, rfl, hb, hf, hr, hk⟩
  exact ⟨a, cap, rfl, hr, hk⟩

/-- Bytes that were made, at least one, so many. -/
def MadeA (w : World) (l : List Int) (k : Nat) (e : Ending) (w' : World) : Prop :=
  ∃ b off cap, e = .returned (.tuple #[.slice (some ⟨b, off, none⟩) k cap, .int .i64 0]) ∧ (k ≤ cap ∧ (∀ j, j ≤ k → Bs (fun b => w.heap.size ≤ b) w' (.slice (some ⟨b, off, none⟩) j cap) (l.take j))) ∧ Below w.heap.size w w'

theorem madeA {w w' : World} {l : List Int} {e : Ending} (h : MadeEnd w l e w') (k : Nat) (hk : l.length = k) (h0 : 0 < k) : MadeA w l k e w' := by
  obtain ⟨a, cap, rfl, ⟨h1, h2, h3⟩, hb⟩ := h
  rcases h3 with ⟨_, hn⟩ | ⟨b, off, c, hv, hc, hA, hlt, hcell⟩
  · rw [hn] at hk; simp at hk; omega
  · simp only [Value.slice.injEq] at hv
    obtain ⟨rfl, _, rfl⟩ := hv
    subst hk
    exact ⟨b, off, cap, rfl, ⟨hc, fun j hj => Bs.front h1 h2 hc hA hlt hcell hj⟩, hb⟩

set_option maxRecDepth 100000 in
set_option maxHeartbeats 4000000 in
theorem walkS (n k at' : Int) (s t : ByteArray) (w : World) (n0 : -9223372036854775808 ≤ n) (n1 : n ≤ 9223372036854775807) (t0 : -9223372036854775808 ≤ at') (t1 : at' ≤ 9223372036854775807) (hk : n % 9007199254740992 = k) (htl : s.size ≤ 1000)
    (k1 k3 j1 j3 : Nat) (g1 : (Num.enc k).length = k1) (g3 : (Num.enc s.size ++ bytesOf s).length = k3) (p1 : 0 < k1) (p3 : 0 < k3) (z1 : k1 ≤ 8) (z3 : k3 ≤ 1008) (m1 : at' % (k1 : Int) = j1) (m3 : at' % (k3 : Int) = j3) :
    Calls Try.prog 3 #[.int .i64 n, .string s, .int .i64 at'] w fun e w' => TrueEnd w e w' := by
  have hj1 : j1 < k1 := by have := Int.emod_lt_of_pos at' (show (0 : Int) < (k1 : Int) by omega); omega
  have hj3 : j3 < k3 := by have := Int.emod_lt_of_pos at' (show (0 : Int) < (k3 : Int) by omega); omega
  have HK := hd hk
  have M1 := hd m1
  have M3 := hd m3
  have hk0 : 0 ≤ k := by omega
  have hk1 : k ≤ 9007199254740991 := by omega
  have htl' : (s.size : Int) ≤ 1000 := by omega
  have i1 : (j1 : Int) ≤ (k1 : Int) := by omega
  have i3 : (j3 : Int) ≤ (k3 : Int) := by omega
  have x1 : (0 : Int) < (k1 : Int) := by omega
  have x3 : (0 : Int) < (k3 : Int) := by omega
  have y1 : ((k1 : Int) == 0) = false := by rw [beq_eq_false_iff_ne]; omega
  have y3 : ((k3 : Int) == 0) = false := by rw [beq_eq_false_iff_ne]; omega
  have HU : Hid (∀ w, Calls Try.prog 5 #[.int .i64 k] w fun e w' => MadeA w (Num.enc k) k1 e w') := fun w => (U_made k w hk0 hk1).mono (fun e w' h => madeA h k1 g1 p1)
  have HTX : Hid (∀ w, Calls Try.prog 7 #[.string s] w fun e w' => MadeA w (Num.enc s.size ++ bytesOf s) k3 e w') := fun w => (Text_ok s w (by omega)).mono (fun e w' h => madeA h k3 g3 p3)
  have S1 := hd (uStep_cut 9007199254740991 k j1 hk0 (by omega) hk1 (by omega))
  have S3 := hd (bStep_cut s j3 (by omega) (by omega))
  have htn : decide ((1000 : Int) < (s.size : Int)) = false := by rw [decide_eq_false_iff_not]; omega
  clear hk g1 g3 m1 m3
  go_enter Try.func3, Try.ntmps3
  go_wp2_with fail
  refine (works_true _).mono ?_
  rintro e w1 ⟨rfl, hbl⟩
  have B1 := hd hbl
  clear hbl
  go_wp2_with fail
  refine (bring_any _ _ _ n0 n1 (by omega) (by omega)).mono ?_
  rintro e w2 ⟨rfl, rfl⟩
  rw [HK.out]
  go_wp2_with fail
  refine (HU.out _).mono ?_
  rintro e w3 ⟨b1, o1, c1, rfl, ⟨hc1, hbs⟩, hbl⟩
  have B3 := hd (below_below B1.out hbl)
  have P1 := hd (hbs j1 (by omega))
  have i1c : (k1 : Int) ≤ (c1 : Int) := by omega
  clear hbs hbl B1
  go_wp2_with fail
  refine (HTX.out _).mono ?_
  rintro e w5 ⟨b3, o3, c3, rfl, ⟨hc3, hbs⟩, hbl⟩
  have B5 := hd (below_below B3.out hbl)
  have P15 := hd (P1.out.keepB hbl)
  have P35 := hd (hbs j3 (by omega))
  have i3c : (k3 : Int) ≤ (c3 : Int) := by omega
  clear hbs hbl B3 P1
  go_wp2_with fail
  refine (bring_any _ _ _ t0 t1 (by omega) (by omega)).mono ?_
  rintro e w6 ⟨rfl, rfl⟩
  rw [M1.out]
  go_wp2_with fail
  refine (New_any P15.out).mono ?_
  rintro e w7 ⟨rb1, rfl, hrb, hr, hbl⟩
  have R1 := hd (Nat.le_trans B5.out.size hrb)
  have B7 := hd (below_below B5.out hbl)
  have P37 := hd (P35.out.keepB hbl)
  have D1 := hd hr
  clear hrb hr hbl B5 P35 P15
  go_wp2_with fail
  refine (bring_any _ _ _ t0 t1 (by omega) (by omega)).mono ?_
  rintro e w8 ⟨rfl, rfl⟩
  rw [M3.out]
  go_wp2_with fail
  refine (New_any P37.out).mono ?_
  rintro e w9 ⟨rb3, rfl, hrb, hr, hbl⟩
  have R3 := hd (And.intro (Nat.le_trans B7.out.size hrb) (Nat.lt_of_lt_of_le D1.out.lt hrb))
  have R4 := hd hrb
  have B9 := hd (below_below B7.out hbl)
  have D19 := hd (D1.out.keep hbl)
  have D39 := hd hr
  clear hrb hr hbl B7 P37
  go_wp2_with fail
  refine (RU_is D19.out 0 S1.out).mono ?_
  rintro e w10 ⟨rfl, hr, hkp⟩
  have B10 := hd (below_kp B9.out R1.out hkp)
  have D110 := hd hr
  have D310 := hd (D39.out.keepO hkp (Or.inl D1.out.lt) R4.out)
  clear hr hkp B9 D19 D39
  go_wp2_with fail
  refine (Err_any D110.out).mono ?_
  rintro e w11 ⟨rfl, rfl⟩
  go_wp2_with fail
  refine (RS_zero D110.out).mono ?_
  rintro e w12 ⟨rfl, hr, hkp⟩
  have B12 := hd (below_kp B10.out R1.out hkp)
  have D312 := hd (D310.out.keepO hkp (Or.inl D1.out.lt) R4.out)
  clear hr hkp B10 D110 D310
  go_wp2_with fail
  refine (RText_is D312.out 1000 S3.out ⟨#[]⟩ rfl).mono ?_
  rintro e w13 ⟨rfl, hr, hkp⟩
  have B13 := hd (below_kp B12.out R3.out.1 hkp)
  have D313 := hd hr
  clear hr hkp B12 D312
  go_wp2_with fail
  refine (Err_any D313.out).mono ?_
  rintro e w14 ⟨rfl, rfl⟩
  go_wp2_with fail
  refine (RU_is D313.out 0 (l' := []) (e1 := 3) rfl).mono ?_
  rintro e w15 ⟨rfl, hr, hkp⟩
  have B15 := hd (below_kp B13.out R3.out.1 hkp)
  have D315 := hd hr
  clear hr hkp B13 D313
  go_wp2_with fail
  refine (RRaw_zero D315.out).mono ?_
  rintro e w16 ⟨a16, c16, rfl, hr, hkp⟩
  have B16 := hd (below_kp B15.out R3.out.1 hkp)
  have D316 := hd hr
  clear hr hkp B15 D315
  go_wp2_with fail
  refine (Left_bad D316.out (by decide)).mono ?_
  rintro e w17 ⟨rfl, rfl⟩
  go_wp2
  go_ret
  exact ⟨rfl, B16.out⟩

set_option maxRecDepth 100000 in
set_option maxHeartbeats 4000000 in
theorem walkL (n k at' : Int) (s t : ByteArray) (w : World) (n0 : -9223372036854775808 ≤ n) (n1 : n ≤ 9223372036854775807) (t0 : -9223372036854775808 ≤ at') (t1 : at' ≤ 9223372036854775807) (hk : n % 9007199254740992 = k) (ht : s.extract 0 1000 = t) (htl : t.size ≤ 1000) (hsl : 1000 < s.size)
    (k1 k3 j1 j3 : Nat) (g1 : (Num.enc k).length = k1) (g3 : (Num.enc t.size ++ bytesOf t).length = k3) (p1 : 0 < k1) (p3 : 0 < k3) (z1 : k1 ≤ 8) (z3 : k3 ≤ 1008) (m1 : at' % (k1 : Int) = j1) (m3 : at' % (k3 : Int) = j3) :
    Calls Try.prog 3 #[.int .i64 n, .string s, .int .i64 at'] w fun e w' => TrueEnd w e w' := by
  have hj1 : j1 < k1 := by have := Int.emod_lt_of_pos at' (show (0 : Int) < (k1 : Int) by omega); omega
  have hj3 : j3 < k3 := by have := Int.emod_lt_of_pos at' (show (0 : Int) < (k3 : Int) by omega); omega
  have HK := hd hk
  have M1 := hd m1
  have M3 := hd m3
  have hk0 : 0 ≤ k := by omega
  have hk1 : k ≤ 9007199254740991 := by omega
  have htl' : (t.size : Int) ≤ 1000 := by omega
  have i1 : (j1 : Int) ≤ (k1 : Int) := by omega
  have i3 : (j3 : Int) ≤ (k3 : Int) := by omega
  have x1 : (0 : Int) < (k1 : Int) := by omega
  have x3 : (0 : Int) < (k3 : Int) := by omega
  have y1 : ((k1 : Int) == 0) = false := by rw [beq_eq_false_iff_ne]; omega
  have y3 : ((k3 : Int) == 0) = false := by rw [beq_eq_false_iff_ne]; omega
  have HU : Hid (∀ w, Calls Try.prog 5 #[.int .i64 k] w fun e w' => MadeA w (Num.enc k) k1 e w') := fun w => (U_made k w hk0 hk1).mono (fun e w' h => madeA h k1 g1 p1)
  have HTX : Hid (∀ w, Calls Try.prog 7 #[.string t] w fun e w' => MadeA w (Num.enc t.size ++ bytesOf t) k3 e w') := fun w => (Text_ok t w (by omega)).mono (fun e w' h => madeA h k3 g3 p3)
  have S1 := hd (uStep_cut 9007199254740991 k j1 hk0 (by omega) hk1 (by omega))
  have S3 := hd (bStep_cut t j3 (by omega) (by omega))
  have HTT := hd ht
  have hsl' : (1000 : Int) < (s.size : Int) := by omega
  clear ht
  clear hk g1 g3 m1 m3
  go_enter Try.func3, Try.ntmps3
  go_wp2_with fail
  refine (works_true _).mono ?_
  rintro e w1 ⟨rfl, hbl⟩
  have B1 := hd hbl
  clear hbl
  go_wp2_with fail
  refine (bring_any _ _ _ n0 n1 (by omega) (by omega)).mono ?_
  rintro e w2 ⟨rfl, rfl⟩
  rw [HK.out]
  go_wp2_with fail
  refine (HU.out _).mono ?_
  rintro e w3 ⟨b1, o1, c1, rfl, ⟨hc1, hbs⟩, hbl⟩
  have B3 := hd (below_below B1.out hbl)
  have P1 := hd (hbs j1 (by omega))
  have i1c : (k1 : Int) ≤ (c1 : Int) := by omega
  clear hbs hbl B1
  go_wp2_with fail
  rw [HTT.out]
  refine (HTX.out _).mono ?_
  rintro e w5 ⟨b3, o3, c3, rfl, ⟨hc3, hbs⟩, hbl⟩
  have B5 := hd (below_below B3.out hbl)
  have P15 := hd (P1.out.keepB hbl)
  have P35 := hd (hbs j3 (by omega))
  have i3c : (k3 : Int) ≤ (c3 : Int) := by omega
  clear hbs hbl B3 P1
  go_wp2_with fail
  refine (bring_any _ _ _ t0 t1 (by omega) (by omega)).mono ?_
  rintro e w6 ⟨rfl, rfl⟩
  rw [M1.out]
  go_wp2_with fail
  refine (New_any P15.out).mono ?_
  rintro e w7 ⟨rb1, rfl, hrb, hr, hbl⟩
  have R1 := hd (Nat.le_trans B5.out.size hrb)
  have B7 := hd (below_below B5.out hbl)
  have P37 := hd (P35.out.keepB hbl)
  have D1 := hd hr
  clear hrb hr hbl B5 P35 P15
  go_wp2_with fail
  refine (bring_any _ _ _ t0 t1 (by omega) (by omega)).mono ?_
  rintro e w8 ⟨rfl, rfl⟩
  rw [M3.out]
  go_wp2_with fail
  refine (New_any P37.out).mono ?_
  rintro e w9 ⟨rb3, rfl, hrb, hr, hbl⟩
  have R3 := hd (And.intro (Nat.le_trans B7.out.size hrb) (Nat.lt_of_lt_of_le D1.out.lt hrb))
  have R4 := hd hrb
  have B9 := hd (below_below B7.out hbl)
  have D19 := hd (D1.out.keep hbl)
  have D39 := hd hr
  clear hrb hr hbl B7 P37
  go_wp2_with fail
  refine (RU_is D19.out 0 S1.out).mono ?_
  rintro e w10 ⟨rfl, hr, hkp⟩
  have B10 := hd (below_kp B9.out R1.out hkp)
  have D110 := hd hr
  have D310 := hd (D39.out.keepO hkp (Or.inl D1.out.lt) R4.out)
  clear hr hkp B9 D19 D39
  go_wp2_with fail
  refine (Err_any D110.out).mono ?_
  rintro e w11 ⟨rfl, rfl⟩
  go_wp2_with fail
  refine (RS_zero D110.out).mono ?_
  rintro e w12 ⟨rfl, hr, hkp⟩
  have B12 := hd (below_kp B10.out R1.out hkp)
  have D312 := hd (D310.out.keepO hkp (Or.inl D1.out.lt) R4.out)
  clear hr hkp B10 D110 D310
  go_wp2_with fail
  refine (RText_is D312.out 1000 S3.out ⟨#[]⟩ rfl).mono ?_
  rintro e w13 ⟨rfl, hr, hkp⟩
  have B13 := hd (below_kp B12.out R3.out.1 hkp)
  have D313 := hd hr
  clear hr hkp B12 D312
  go_wp2_with fail
  refine (Err_any D313.out).mono ?_
  rintro e w14 ⟨rfl, rfl⟩
  go_wp2_with fail
  refine (RU_is D313.out 0 (l' := []) (e1 := 3) rfl).mono ?_
  rintro e w15 ⟨rfl, hr, hkp⟩
  have B15 := hd (below_kp B13.out R3.out.1 hkp)
  have D315 := hd hr
  clear hr hkp B13 D313
  go_wp2_with fail
  refine (RRaw_zero D315.out).mono ?_
  rintro e w16 ⟨a16, c16, rfl, hr, hkp⟩
  have B16 := hd (below_kp B15.out R3.out.1 hkp)
  have D316 := hd hr
  clear hr hkp B15 D315
  go_wp2_with fail
  refine (Left_bad D316.out (by decide)).mono ?_
  rintro e w17 ⟨rfl, rfl⟩
  go_wp2
  go_ret
  exact ⟨rfl, B16.out⟩

theorem walk (n : Int) (wn : (Lit.int .i64 n).wf = true) (s : ByteArray) (ws : s.size ≤ maxLen) (at' : Int) (wt : (Lit.int .i64 at').wf = true) (w : World) :
    Calls Try.prog 3 #[.int .i64 n, .string s, .int .i64 at'] w fun e w' => e = .returned (.bool true) ∧ Below w.heap.size w w' := by
  obtain ⟨n0, n1⟩ := bounds_i64 wn
  obtain ⟨t0, t1⟩ := bounds_i64 wt
  obtain ⟨k, hk⟩ : ∃ k, n % 9007199254740992 = k := ⟨_, rfl⟩
  have sz8 : ∀ x : Int, 0 ≤ x → 0 < (Num.enc x).length ∧ (Num.enc x).length ≤ 8 := by
    intro x hx
    have h1 := Num.enc_length x
    have h2 := Num.sz_bd x hx
    omega
  have tx : ∀ t : ByteArray, t.size ≤ 1000 → 0 < (Num.enc t.size ++ bytesOf t).length ∧ (Num.enc t.size ++ bytesOf t).length ≤ 1008 := by
    intro t ht
    have h1 := sz8 t.size (by omega)
    rw [List.length_append, bytesOf_length]
    omega
  have mm : ∀ m : Nat, 0 < m → ∃ j : Nat, at' % (m : Int) = j := by
    intro m hm
    exact ⟨(at' % (m : Int)).toNat, (Int.toNat_of_nonneg (Int.emod_nonneg _ (by omega))).symm⟩
  have ha := sz8 k (by omega)
  obtain ⟨j1, hj1⟩ := mm _ ha.1
  by_cases hs : s.size ≤ 1000
  · have ht := tx s hs
    obtain ⟨j3, hj3⟩ := mm _ ht.1
    exact walkS n k at' s s w n0 n1 t0 t1 hk hs _ _ j1 j3 rfl rfl ha.1 ht.1 ha.2 ht.2 hj1 hj3
  · have hz : (s.extract 0 1000).size ≤ 1000 := by rw [ByteArray.size_extract]; omega
    have ht := tx _ hz
    obtain ⟨j3, hj3⟩ := mm _ ht.1
    exact walkL n k at' s _ w n0 n1 t0 t1 hk rfl hz (by omega) _ _ j1 j3 rfl rfl ha.1 ht.1 ha.2 ht.2 hj1 hj3

theorem own : ownKnob Try.prog.godebug = none := by kernel_rfl
theorem laidOut : laidOutB Try.prog = true := by kernel_rfl

set_option maxRecDepth 100000 in
theorem lifted (os : Os) (started : os.Started) (H : Type) (enc : TypeId × Value → H) :
    ReturnsInHanded {} Try.checked os 3 .any (Rows.digitsCutSpec.pre6 enc Try.prog Try.f3 Rows.digitsCutRow.domain false) (Rows.digitsCutSpec.post enc Try.prog Try.f3 false true false false) := by
  refine returnsInHanded_of_change (C := Try.checked) own started (by kernel_rfl) Try.func3
    (ChangeSpec.witness6 (enc := enc) (C := Try.checked) false ⟨#[], #[.int .i64 0, .string ByteArray.empty, .int .i64 0], []⟩ 8 (by kernel_rfl) (by kernel_rfl) (by kernel_rfl) (by kernel_rfl)) ?_
  intro W base args ds gs before hval0 hW hcnd _
  have hval : ∀ (j : Nat) t v, Try.f3.params[j]? = some t → args[j]? = some v → Value.okWide Try.prog W .any base t v := hval0
  have hW' := hW
  obtain ⟨p, q, hA0, hV, rfl, hfz, hnd⟩ := hW
  have hA : DataW.TrodAll enc Try.prog W 0 (fun _ => true) true Try.f3.params.toList args.toList ds p := hA0
  rw [Try.params3] at hA hval
  obtain ⟨v0, vs0, d0, ds0, p0, q0, hargs, rfl, rfl, h0, r0⟩ := trodAll_cons hA
  obtain ⟨v1, vs1, d1, ds1, p1, q1, rfl, rfl, rfl, h1, r1⟩ := trodAll_cons r0
  obtain ⟨v2, vs2, d2, ds2, p2, q2, rfl, rfl, rfl, h2, r2⟩ := trodAll_cons r1
  obtain ⟨rfl, rfl, rfl⟩ := trodAll_nil r2
  obtain rfl : args = #[v0, v1, v2] := by cases args; simp_all
  obtain ⟨rfl, rfl⟩ := trodVars_none hV
  obtain ⟨a0, rfl, rfl, rfl, w0⟩ := open_int Try.underlying3 (hval 0 3 v0 rfl rfl) h0
  obtain ⟨a1, rfl, rfl, rfl, w1⟩ := open_string Try.underlying9 (hval 1 9 v1 rfl rfl) h1
  obtain ⟨a2, rfl, rfl, rfl, w2⟩ := open_int Try.underlying3 (hval 2 3 v2 rfl rfl) h2
  clear hA0 hval0
  refine (walk a0 w0 a1 w1 a2 w2 W).mono fun e W' ⟨he, bel⟩ => ?_
  subst he
  exact ⟨_, rfl, _, _, _, [], _, [], hW', trodAll_mk1 (shut_bool Try.underlying4 _), (trodAll_cons_mk (shut_int Try.underlying3 w0) (trodAll_cons_mk (shut_string Try.underlying9 w1) (trodAll_cons_mk (shut_int Try.underlying3 w2) trodAll_mk0))), rfl, bel.frame _, fun h => by cases h⟩

theorem over : Rows.digitsCutRow.holds Try.pinned (OpenSpec.ofChange Rows.digitsCutSpec) :=
  OpenClaim.holds_of_wide 3 Try.f3 rfl rfl rfl rfl rfl rfl rfl ⟨rfl, rfl, rfl, rfl, rfl⟩ rfl rfl rfl rfl rfl (by kernel_rfl) Try.func3 (by kernel_rfl)
    (of_decide_eq_true (by kernel_rfl)) (by unfold Func.isWrapper; first | (rw [if_pos (by decide +kernel)]; kernel_rfl) | (rw [if_neg (by decide +kernel)]; exact ⟨rfl, rfl⟩))
    (fun os started H enc _ => lifted os started H enc)

end Go.Proofs.Ytdjpdllgifdhaab.digitsCut
namespace Go.Proofs.Ytdjpdllgifdhaab

/-- The statement. -/
theorem digitsCut_proved : Rows.DigitsCutSaid := digitsCut.over
#print axioms digitsCut_proved
end Go.Proofs.Ytdjpdllgifdhaab
