/- DigitsAgain: for all bytes the law answers true: what was read, written again, are the bytes that were taken off. -/
import Derived.Test.YtdjpdllgifdhaaaKo
import Derived.Test.YtdjpdllgifdhaaaRows
import Derived.ProofKit
import Derived.OpenShut
import Derived.ShutString
import Derived.ChangeOld
import Derived.SizedLaws
namespace Go.Proofs.Ytdjpdllgifdhaaa.digitsAgain
open Go.ChangeShapes Go.WideShapes Go.ChangeAt Go.RowKit
open Go.ChangeMaps (open_string shut_string)
set_option linter.unusedVariables false

/-- What is read of a number, written again. -/
theorem uStep_again (most : Int) (l : List Int) (hl : Byt l) (n : Int) (l' : List Int) (e : Int) (hs : uStep most l 0 = (n, l', e)) : e ≠ 0 ∨ (e = 0 ∧ l = Num.enc n ++ l') := by
  unfold uStep at hs
  rw [if_neg (by omega)] at hs
  by_cases h : (Num.num most l).2.1 ≠ 0
  · rw [if_pos h] at hs
    simp only [Prod.mk.injEq] at hs
    exact Or.inl (by rw [← hs.2.2]; exact h)
  · rw [if_neg h] at hs
    simp only [Prod.mk.injEq] at hs
    obtain ⟨h1, h2, h3⟩ := hs
    have hn : Num.num most l = (n, 0, (Num.num most l).2.2) := by
      have h' : (Num.num most l).2.1 = 0 := by simpa using h
      rw [← h1, ← h']
    have ha := Num.num_again most n l _ (fun i => hl.get i) hn
    refine Or.inr ⟨h3.symm, ?_⟩
    rw [ha.2, ← h2]
    exact (List.take_append_drop _ l).symm

theorem raw_again (n : Int) (l : List Int) : (rawR n l).1 ≠ 0 ∨ ((rawR n l).1 = 0 ∧ 0 ≤ n ∧ l = (rawR n l).2.1 ++ (rawR n l).2.2 ∧ (((rawR n l).2.1).length : Int) = n) := by
  unfold rawR
  by_cases h0 : n < 0
  · rw [if_pos h0]; exact Or.inl (by simp)
  · rw [if_neg h0]
    by_cases h1 : (l.length : Int) < n
    · rw [if_pos h1]; exact Or.inl (by simp)
    · rw [if_neg h1]
      refine Or.inr ⟨rfl, by omega, (List.take_append_drop _ l).symm, ?_⟩
      rw [List.length_take]
      omega

theorem bStep_again (most : Int) (l : List Int) (hl : Byt l) (hm : most ≤ 60000) (hm0 : 0 ≤ most) (bs l' : List Int) (e : Int) (hs : bStep (textR most l) l 0 = (bs, l', e)) :
    bs.length ≤ 60000 ∧ (e ≠ 0 ∨ (e = 0 ∧ l = (Num.enc bs.length ++ bs) ++ l')) := by
  unfold bStep at hs
  rw [if_neg (by omega)] at hs
  by_cases h : (textR most l).1 ≠ 0
  · rw [if_pos h] at hs
    simp only [Prod.mk.injEq] at hs
    refine ⟨by rw [← hs.1]; simp, Or.inl (by rw [← hs.2.2]; exact h)⟩
  · rw [if_neg h] at hs
    simp only [Prod.mk.injEq] at hs
    obtain ⟨h1, h2, h3⟩ := hs
    have h' : (textR most l).1 = 0 := by simpa using h
    unfold textR at h' h1 h2
    by_cases g1 : (Num.num 9007199254740991 l).2.1 ≠ 0
    · rw [if_pos g1] at h'; exact absurd h' g1
    · rw [if_neg g1] at h' h1 h2
      by_cases g2 : most < (Num.num 9007199254740991 l).1
      · rw [if_pos g2] at h'; exact absurd h' (by simp)
      · rw [if_neg g2] at h' h1 h2
        have hn : Num.num 9007199254740991 l = ((Num.num 9007199254740991 l).1, 0, (Num.num 9007199254740991 l).2.2) := by
          have g : (Num.num 9007199254740991 l).2.1 = 0 := by simpa using g1
          rw [← g]
        have ha := Num.num_again _ _ l _ (fun i => hl.get i) hn
        have hr := raw_again (Num.num 9007199254740991 l).1 (l.drop (Num.num 9007199254740991 l).2.2)
        rcases hr with hr | ⟨_, q0, q1, q2⟩
        · exact absurd h' hr
        · rw [h1, h2] at q1
          rw [h1] at q2
          refine ⟨by omega, Or.inr ⟨h3.symm, ?_⟩⟩
          rw [q2, ha.2, List.append_assoc, ← q1]
          exact (List.take_append_drop _ l).symm

theorem bStep_byt (most : Int) (l : List Int) (hl : Byt l) (bs l' : List Int) (e : Int) (hs : bStep (textR most l) l 0 = (bs, l', e)) : Byt bs := by
  unfold bStep at hs
  rw [if_neg (by omega)] at hs
  by_cases h : (textR most l).1 ≠ 0
  · rw [if_pos h] at hs
    simp only [Prod.mk.injEq] at hs
    rw [← hs.1]; exact Byt.nil
  · rw [if_neg h] at hs
    simp only [Prod.mk.injEq] at hs
    rw [← hs.1]
    unfold textR rawR
    repeat' split
    · exact Byt.nil
    · exact Byt.nil
    · exact Byt.nil
    · exact Byt.nil
    · exact (hl.drop _).take _

/-- Bytes that were made, so many. -/
def MadeK (w : World) (l : List Int) (k : Nat) (e : Ending) (w' : World) : Prop :=
  ∃ a cap, e = .returned (.tuple #[.slice a k cap, .int .i64 0]) ∧ Bs (fun b => w.heap.size ≤ b) w' (.slice a k cap) l ∧ Below w.heap.size w w'

theorem madeK {w w' : World} {l : List Int} {e : Ending} (h : MadeEnd w l e w') (k : Nat) (hk : l.length = k) : MadeK w l k e w' := by
  subst hk; exact h

theorem Left_is {RB : Nat} {w : World} {rb : Nat} {l : List Int} (h : Rd RB w rb l 0) (k : Nat) (hk : l.length = k) :
    Calls Try.prog 32 #[.pointer (some ⟨rb, 0, none⟩)] w fun e w' => e = .returned (.int .i64 k) ∧ w' = w := by
  subst hk; exact Left_ok h

theorem prefix_is {N : Nat} {B : Nat → Prop} {w : World} {va vb : Value} {la lb r : List Int} (ha : Bx N w va la) (hb : Bs B w vb lb) (h0 : 0 < lb.length) (he : la = lb ++ r) :
    Calls Try.prog 35 #[va, vb] w fun e w' => e = .returned (.bool true) ∧ w' = w := by
  have h := prefix_bx ha hb h0
  have ht : decide (la.take lb.length = lb) = true := by rw [decide_eq_true_iff, he, List.take_left]
  rw [ht] at h
  exact h

theorem unfold_bd (n : Int) (h0 : 0 ≤ n) (h1 : n ≤ 18014398509481982) : -9007199254740991 ≤ unfoldI n ∧ unfoldI n ≤ 9007199254740991 := by
  unfold unfoldI; split <;> omega

theorem RText_str {RB : Nat} {w : World} {rb : Nat} {l l' bs : List Int} {e0 e1 : Int} (h : Rd RB w rb l e0) (n : Int) (hs : bStep (textR n l) l e0 = (bs, l', e1)) :
    Calls Try.prog 23 #[.pointer (some ⟨rb, 0, none⟩), .int .i64 n] w fun e w' => e = .returned (.string (strOfNums bs)) ∧ Rd RB w' rb l' e1 ∧ Kp (fun b => b = rb) w w' := RText_is h n hs _ rfl

theorem bytes_str (bs : List Int) (hb : Byt bs) : bytesOf (strOfNums bs) = bs := by
  unfold bytesOf
  rw [strOfNums_data, List.map_map]
  have h : ∀ x ∈ bs, ((fun b : UInt8 => (b.toNat : Int)) ∘ fun n : Int => UInt8.ofNat n.toNat) x = x := by
    intro x hx
    have := hb x hx
    simp only [Function.comp]
    rw [UInt8.toNat_ofNat']
    omega
  rw [List.map_congr_left h, List.map_id'']
  intro x; rfl

theorem Text_str (bs : List Int) (hb : Byt bs) (w : World) (h : bs.length ≤ 65535) :
    Calls Try.prog 13 #[.string (strOfNums bs)] w fun e w' => MadeEnd w (Num.enc bs.length ++ bs) e w' := by
  have h1 := Text_ok (strOfNums bs) w (by rw [strOfNums_size]; exact h)
  rw [strOfNums_size, bytes_str bs hb] at h1
  exact h1

set_option maxHeartbeats 4000000 in
theorem walkOOO (a : Option Addr) (len cap : Nat) (w : World) (l : List Int) (hx : Bx w.heap.size w (.slice a len cap) l) (hlen : l.length = len) (hb : len ≤ 140737488351232)
    (n1 n2 : Int) (bs l1 l2 l3 x1 x2 x3 : List Int) (e1 e2 e3 : Int) (k1 k2 k3 : Nat)
    (s1 : uStep 9007199254740991 l 0 = (n1, l1, 0)) (s2 : uStep 18014398509481982 l 0 = (n2, l2, 0)) (s3 : bStep (textR 60000 l) l 0 = (bs, l3, 0))
    (b1 : 0 ≤ n1) (b1' : n1 ≤ 9007199254740991) (b2 : 0 ≤ n2) (b2' : n2 ≤ 18014398509481982) (b3 : bs.length ≤ 60000) (b3' : Byt bs)
    (f1 : x1 = Num.enc n1) (f2 : x2 = Num.enc n2) (f3 : x3 = Num.enc bs.length ++ bs) (g1 : x1.length = k1) (g2 : x2.length = k2) (g3 : x3.length = k3) (p1 : 0 < x1.length) (p2 : 0 < x2.length) (p3 : 0 < x3.length)
    (hl1 : l = x1 ++ l1)
    (hl2 : l = x2 ++ l2)
    (hl3 : l = x3 ++ l3) :
    Calls Try.prog 6 #[.slice a len cap] w fun e w' => TrueEnd w e w' := by
  obtain ⟨m1, hm1⟩ : ∃ m, l1.length = m := ⟨_, rfl⟩
  have hsum1 : k1 + m1 = len := by have h := congrArg List.length hl1; rw [List.length_append] at h; omega
  have HL1 := hd hl1
  have HM1 := hd hm1
  have hq1 : ((k1 : Int) + (m1 : Int) == (len : Int)) = true := by rw [beq_iff_eq]; omega
  have hm1b : (m1 : Int) ≤ 140737488355328 := by omega
  clear hl1 hm1 hsum1
  obtain ⟨m2, hm2⟩ : ∃ m, l2.length = m := ⟨_, rfl⟩
  have hsum2 : k2 + m2 = len := by have h := congrArg List.length hl2; rw [List.length_append] at h; omega
  have HL2 := hd hl2
  have HM2 := hd hm2
  have hq2 : ((k2 : Int) + (m2 : Int) == (len : Int)) = true := by rw [beq_iff_eq]; omega
  have hm2b : (m2 : Int) ≤ 140737488355328 := by omega
  clear hl2 hm2 hsum2
  obtain ⟨m3, hm3⟩ : ∃ m, l3.length = m := ⟨_, rfl⟩
  have hsum3 : k3 + m3 = len := by have h := congrArg List.length hl3; rw [List.length_append] at h; omega
  have HL3 := hd hl3
  have HM3 := hd hm3
  have hq3 : ((k3 : Int) + (m3 : Int) == (len : Int)) = true := by rw [beq_iff_eq]; omega
  have hm3b : (m3 : Int) ≤ 140737488355328 := by omega
  clear hl3 hm3 hsum3
  have hk1 : (k1 : Int) ≤ 70000 := by
    have h1 := Num.enc_length n1
    have h2 := Num.sz_bd n1 b1
    have h3 : k1 = Num.sz n1 := by rw [← g1, f1, h1]
    omega
  have hk2 : (k2 : Int) ≤ 70000 := by
    have h1 := Num.enc_length n2
    have h2 := Num.sz_bd n2 b2
    have h3 : k2 = Num.sz n2 := by rw [← g2, f2, h1]
    omega
  have hk3 : (k3 : Int) ≤ 70000 := by
    have h1 := Num.enc_length bs.length
    have h2 := Num.sz_bd bs.length (by omega)
    have h3 : k3 = Num.sz bs.length + bs.length := by rw [← g3, f3, List.length_append, h1]
    omega
  have HP1 := hd p1
  have HP2 := hd p2
  have HP3 := hd p3
  have HBX := hd hx
  have HS1 := hd s1
  have HS2 := hd s2
  have HS3 := hd s3
  have HU : Hid (∀ w, Calls Try.prog 9 #[.int .i64 n1] w fun e w' => MadeK w x1 k1 e w') := by
    intro w; rw [f1]; exact (U_made n1 w b1 b1').mono (fun e w' h => madeK h k1 (by rw [← f1]; exact g1))
  have HSS : Hid (∀ w, Calls Try.prog 11 #[.int .i64 (unfoldI n2)] w fun e w' => MadeK w x2 k2 e w') := by
    intro w
    have hu := unfold_bd n2 b2 b2'
    have h := S_made (unfoldI n2) w hu.1 hu.2
    rw [fold_unfold n2 b2] at h
    rw [f2]; exact h.mono (fun e w' h => madeK h k2 (by rw [← f2]; exact g2))
  have HTT : Hid (∀ w, Calls Try.prog 13 #[.string (strOfNums bs)] w fun e w' => MadeK w x3 k3 e w') := by
    intro w
    rw [f3]; exact (Text_str bs b3' w (by omega)).mono (fun e w' h => madeK h k3 (by rw [← f3]; exact g3))
  clear hx s1 s2 s3 f1 f2 f3 g1 g2 g3 p1 p2 p3 hlen b3 b3' b1 b1' b2 b2'
  go_enter Try.func6, Try.ntmps6
  go_wp2_with fail
  refine (works_true _).mono ?_
  rintro e w1 ⟨rfl, hk⟩
  have HB1 := hd hk
  have HW1 := hd hk.size
  have HX1 := hd (HBX.out.keep hk)
  clear hk HBX
  go_wp2_with fail
  refine (New_bx HX1.out).mono ?_
  rintro e w2 ⟨rb1, rfl, hr1, hrd, hk⟩
  have R1 := hd hr1
  have RD1 := hd hrd
  have HX2 := hd (HX1.out.keep hk)
  have HB2 := hd (below_below HB1.out hk)
  clear hr1 hrd hk HX1 HB1
  go_wp2_with fail
  refine (New_bx HX2.out).mono ?_
  rintro e w3 ⟨rb2, rfl, hr2, hrd, hk⟩
  have R2 : Hid (rb1 < w2.heap.size ∧ w2.heap.size ≤ rb2) := ⟨RD1.out.lt, hr2⟩
  have RD1' := hd (RD1.out.keep hk)
  have RD2 := hd hrd
  have HX3 := hd (HX2.out.keep hk)
  have HB3 := hd (below_below HB2.out hk)
  clear hr2 hrd hk HX2 HB2 RD1
  go_wp2_with fail
  refine (New_bx HX3.out).mono ?_
  rintro e w4 ⟨rb3, rfl, hr3, hrd, hk⟩
  have R3 : Hid (rb2 < w3.heap.size ∧ w3.heap.size ≤ rb3) := ⟨RD2.out.lt, hr3⟩
  have RD1 := hd (RD1'.out.keep hk)
  have RD2' := hd (RD2.out.keep hk)
  have RD3 := hd hrd
  have HX := hd (HX3.out.keep hk)
  have HB := hd (below_below HB3.out hk)
  have HW : Hid (w.heap.size ≤ w1.heap.size) := HW1.out
  clear hr3 hrd hk HX3 HB3 RD1' RD2
  obtain ⟨N, hN⟩ : ∃ N, N = w.heap.size := ⟨_, rfl⟩
  have HN : Hid (w.heap.size ≤ w1.heap.size ∧ w1.heap.size ≤ rb1 ∧ rb1 < w2.heap.size ∧ w2.heap.size ≤ rb2 ∧ rb2 < w3.heap.size ∧ w3.heap.size ≤ rb3 ∧ rb3 < w4.heap.size) :=
    ⟨HW.out, R1.out, R2.out.1, R2.out.2, R3.out.1, R3.out.2, RD3.out.lt⟩
  have HS : Hid (w4.heap.size ≤ w4.heap.size) := Nat.le_refl _
  clear R1 R2 R3 hN HW
  go_wp2_with fail
  refine (RU_is RD1.out n1 HS1.out).mono ?_
  rintro e w5 ⟨rfl, hrd, hk⟩
  have D1v5 := hd hrd
  have D2v5 := hd (RD2'.out.keepO hk (by have := HN.out; omega) (by have := HN.out; omega))
  have D3v5 := hd (RD3.out.keepO hk (by have := HN.out; omega) (by have := HN.out; omega))
  have Xv5 := hd (HX.out.keepO hk (by have := HN.out; omega))
  have Sv5 := hd (Nat.le_trans HS.out hk.size)
  have Bv5 := hd (HB.out.trans (hk.below _ HB.out.size (fun i hi e => by have := HN.out; omega)))
  clear hrd hk RD1 RD2' RD3 HX HS HB
  go_wp2_with fail
  refine (HU.out _).mono ?_
  rintro e w6 ⟨q1, c1, rfl, hbs, hk⟩
  have T1v6 := hd (hbs.weaken (A' := fun b => w4.heap.size ≤ b) (fun b _ h => Nat.le_trans Sv5.out h))
  have D1v6 := hd (D1v5.out.keep hk)
  have D2v6 := hd (D2v5.out.keep hk)
  have D3v6 := hd (D3v5.out.keep hk)
  have Xv6 := hd (Xv5.out.keep hk)
  have Sv6 := hd (Nat.le_trans Sv5.out hk.size)
  have Bv6 := hd (below_below Bv5.out hk)
  clear hbs hk D1v5 D2v5 D3v5 Xv5 Sv5 Bv5
  go_wp2_with fail
  refine (RS_is D2v6.out n2 HS2.out).mono ?_
  rintro e w7 ⟨rfl, hrd, hk⟩
  have D1v7 := hd (D1v6.out.keepO hk (by have := HN.out; omega) (by have := HN.out; omega))
  have D2v7 := hd hrd
  have D3v7 := hd (D3v6.out.keepO hk (by have := HN.out; omega) (by have := HN.out; omega))
  have Xv7 := hd (Xv6.out.keepO hk (by have := HN.out; omega))
  have Sv7 := hd (Nat.le_trans Sv6.out hk.size)
  have Bv7 := hd (Bv6.out.trans (hk.below _ Bv6.out.size (fun i hi e => by have := HN.out; omega)))
  have T1v7 := hd (T1v6.out.keepO hk (fun b hb e => by have := HN.out; omega))
  clear hrd hk D1v6 D2v6 D3v6 Xv6 Sv6 Bv6 T1v6
  go_wp2_with fail
  refine (HSS.out _).mono ?_
  rintro e w8 ⟨q2, c2, rfl, hbs, hk⟩
  have T2v8 := hd (hbs.weaken (A' := fun b => w4.heap.size ≤ b) (fun b _ h => Nat.le_trans Sv7.out h))
  have D1v8 := hd (D1v7.out.keep hk)
  have D2v8 := hd (D2v7.out.keep hk)
  have D3v8 := hd (D3v7.out.keep hk)
  have Xv8 := hd (Xv7.out.keep hk)
  have Sv8 := hd (Nat.le_trans Sv7.out hk.size)
  have Bv8 := hd (below_below Bv7.out hk)
  have T1v8 := hd (T1v7.out.keepB hk)
  clear hbs hk D1v7 D2v7 D3v7 Xv7 Sv7 Bv7 T1v7
  go_wp2_with fail
  refine (RText_str D3v8.out 60000 HS3.out).mono ?_
  rintro e w9 ⟨rfl, hrd, hk⟩
  have D1v9 := hd (D1v8.out.keepO hk (by have := HN.out; omega) (by have := HN.out; omega))
  have D2v9 := hd (D2v8.out.keepO hk (by have := HN.out; omega) (by have := HN.out; omega))
  have D3v9 := hd hrd
  have Xv9 := hd (Xv8.out.keepO hk (by have := HN.out; omega))
  have Sv9 := hd (Nat.le_trans Sv8.out hk.size)
  have Bv9 := hd (Bv8.out.trans (hk.below _ Bv8.out.size (fun i hi e => by have := HN.out; omega)))
  have T1v9 := hd (T1v8.out.keepO hk (fun b hb e => by have := HN.out; omega))
  have T2v9 := hd (T2v8.out.keepO hk (fun b hb e => by have := HN.out; omega))
  clear hrd hk D1v8 D2v8 D3v8 Xv8 Sv8 Bv8 T1v8 T2v8
  go_wp2_with fail
  refine (HTT.out _).mono ?_
  rintro e w10 ⟨q3, c3, rfl, hbs, hk⟩
  have T3v10 := hd (hbs.weaken (A' := fun b => w4.heap.size ≤ b) (fun b _ h => Nat.le_trans Sv9.out h))
  have D1v10 := hd (D1v9.out.keep hk)
  have D2v10 := hd (D2v9.out.keep hk)
  have D3v10 := hd (D3v9.out.keep hk)
  have Xv10 := hd (Xv9.out.keep hk)
  have Sv10 := hd (Nat.le_trans Sv9.out hk.size)
  have Bv10 := hd (below_below Bv9.out hk)
  have T1v10 := hd (T1v9.out.keepB hk)
  have T2v10 := hd (T2v9.out.keepB hk)
  clear hbs hk D1v9 D2v9 D3v9 Xv9 Sv9 Bv9 T1v9 T2v9
  go_wp2_with fail
  refine (Err_any D1v10.out).mono ?_
  rintro e v1 ⟨rfl, rfl⟩
  go_wp2_with fail
  refine (Left_is D1v10.out m1 HM1.out).mono ?_
  rintro e u1 ⟨rfl, rfl⟩
  go_wp2_with fail
  refine (prefix_is Xv10.out T1v10.out HP1.out HL1.out).mono ?_
  rintro e t1 ⟨rfl, rfl⟩
  go_wp2_with fail
  refine (Err_any D2v10.out).mono ?_
  rintro e v2 ⟨rfl, rfl⟩
  go_wp2_with fail
  refine (Left_is D2v10.out m2 HM2.out).mono ?_
  rintro e u2 ⟨rfl, rfl⟩
  go_wp2_with fail
  refine (prefix_is Xv10.out T2v10.out HP2.out HL2.out).mono ?_
  rintro e t2 ⟨rfl, rfl⟩
  go_wp2_with fail
  refine (Err_any D3v10.out).mono ?_
  rintro e v3 ⟨rfl, rfl⟩
  go_wp2_with fail
  refine (Left_is D3v10.out m3 HM3.out).mono ?_
  rintro e u3 ⟨rfl, rfl⟩
  go_wp2_with fail
  refine (prefix_is Xv10.out T3v10.out HP3.out HL3.out).mono ?_
  rintro e t3 ⟨rfl, rfl⟩
  go_wp2
  go_ret
  exact ⟨rfl, Bv10.out⟩

set_option maxHeartbeats 4000000 in
theorem walkEOO (a : Option Addr) (len cap : Nat) (w : World) (l : List Int) (hx : Bx w.heap.size w (.slice a len cap) l) (hlen : l.length = len) (hb : len ≤ 140737488351232)
    (n1 n2 : Int) (bs l1 l2 l3 x1 x2 x3 : List Int) (e1 e2 e3 : Int) (k1 k2 k3 : Nat)
    (s1 : uStep 9007199254740991 l 0 = (n1, l1, e1)) (s2 : uStep 18014398509481982 l 0 = (n2, l2, 0)) (s3 : bStep (textR 60000 l) l 0 = (bs, l3, 0))
    (b1 : 0 ≤ n1) (b1' : n1 ≤ 9007199254740991) (b2 : 0 ≤ n2) (b2' : n2 ≤ 18014398509481982) (b3 : bs.length ≤ 60000) (b3' : Byt bs)
    (f1 : x1 = Num.enc n1) (f2 : x2 = Num.enc n2) (f3 : x3 = Num.enc bs.length ++ bs) (g1 : x1.length = k1) (g2 : x2.length = k2) (g3 : x3.length = k3) (p1 : 0 < x1.length) (p2 : 0 < x2.length) (p3 : 0 < x3.length)
    (he1 : e1 ≠ 0)
    (hl2 : l = x2 ++ l2)
    (hl3 : l = x3 ++ l3) :
    Calls Try.prog 6 #[.slice a len cap] w fun e w' => TrueEnd w e w' := by
  have hn1 : (e1 != 0) = true := by rw [bne_iff_ne]; exact he1
  have HE1 := hd he1
  clear he1
  obtain ⟨m2, hm2⟩ : ∃ m, l2.length = m := ⟨_, rfl⟩
  have hsum2 : k2 + m2 = len := by have h := congrArg List.length hl2; rw [List.length_append] at h; omega
  have HL2 := hd hl2
  have HM2 := hd hm2
  have hq2 : ((k2 : Int) + (m2 : Int) == (len : Int)) = true := by rw [beq_iff_eq]; omega
  have hm2b : (m2 : Int) ≤ 140737488355328 := by omega
  clear hl2 hm2 hsum2
  obtain ⟨m3, hm3⟩ : ∃ m, l3.length = m := ⟨_, rfl⟩
  have hsum3 : k3 + m3 = len := by have h := congrArg List.length hl3; rw [List.length_append] at h; omega
  have HL3 := hd hl3
  have HM3 := hd hm3
  have hq3 : ((k3 : Int) + (m3 : Int) == (len : Int)) = true := by rw [beq_iff_eq]; omega
  have hm3b : (m3 : Int) ≤ 140737488355328 := by omega
  clear hl3 hm3 hsum3
  have hk1 : (k1 : Int) ≤ 70000 := by
    have h1 := Num.enc_length n1
    have h2 := Num.sz_bd n1 b1
    have h3 : k1 = Num.sz n1 := by rw [← g1, f1, h1]
    omega
  have hk2 : (k2 : Int) ≤ 70000 := by
    have h1 := Num.enc_length n2
    have h2 := Num.sz_bd n2 b2
    have h3 : k2 = Num.sz n2 := by rw [← g2, f2, h1]
    omega
  have hk3 : (k3 : Int) ≤ 70000 := by
    have h1 := Num.enc_length bs.length
    have h2 := Num.sz_bd bs.length (by omega)
    have h3 : k3 = Num.sz bs.length + bs.length := by rw [← g3, f3, List.length_append, h1]
    omega
  have HP1 := hd p1
  have HP2 := hd p2
  have HP3 := hd p3
  have HBX := hd hx
  have HS1 := hd s1
  have HS2 := hd s2
  have HS3 := hd s3
  have HU : Hid (∀ w, Calls Try.prog 9 #[.int .i64 n1] w fun e w' => MadeK w x1 k1 e w') := by
    intro w; rw [f1]; exact (U_made n1 w b1 b1').mono (fun e w' h => madeK h k1 (by rw [← f1]; exact g1))
  have HSS : Hid (∀ w, Calls Try.prog 11 #[.int .i64 (unfoldI n2)] w fun e w' => MadeK w x2 k2 e w') := by
    intro w
    have hu := unfold_bd n2 b2 b2'
    have h := S_made (unfoldI n2) w hu.1 hu.2
    rw [fold_unfold n2 b2] at h
    rw [f2]; exact h.mono (fun e w' h => madeK h k2 (by rw [← f2]; exact g2))
  have HTT : Hid (∀ w, Calls Try.prog 13 #[.string (strOfNums bs)] w fun e w' => MadeK w x3 k3 e w') := by
    intro w
    rw [f3]; exact (Text_str bs b3' w (by omega)).mono (fun e w' h => madeK h k3 (by rw [← f3]; exact g3))
  clear hx s1 s2 s3 f1 f2 f3 g1 g2 g3 p1 p2 p3 hlen b3 b3' b1 b1' b2 b2'
  go_enter Try.func6, Try.ntmps6
  go_wp2_with fail
  refine (works_true _).mono ?_
  rintro e w1 ⟨rfl, hk⟩
  have HB1 := hd hk
  have HW1 := hd hk.size
  have HX1 := hd (HBX.out.keep hk)
  clear hk HBX
  go_wp2_with fail
  refine (New_bx HX1.out).mono ?_
  rintro e w2 ⟨rb1, rfl, hr1, hrd, hk⟩
  have R1 := hd hr1
  have RD1 := hd hrd
  have HX2 := hd (HX1.out.keep hk)
  have HB2 := hd (below_below HB1.out hk)
  clear hr1 hrd hk HX1 HB1
  go_wp2_with fail
  refine (New_bx HX2.out).mono ?_
  rintro e w3 ⟨rb2, rfl, hr2, hrd, hk⟩
  have R2 : Hid (rb1 < w2.heap.size ∧ w2.heap.size ≤ rb2) := ⟨RD1.out.lt, hr2⟩
  have RD1' := hd (RD1.out.keep hk)
  have RD2 := hd hrd
  have HX3 := hd (HX2.out.keep hk)
  have HB3 := hd (below_below HB2.out hk)
  clear hr2 hrd hk HX2 HB2 RD1
  go_wp2_with fail
  refine (New_bx HX3.out).mono ?_
  rintro e w4 ⟨rb3, rfl, hr3, hrd, hk⟩
  have R3 : Hid (rb2 < w3.heap.size ∧ w3.heap.size ≤ rb3) := ⟨RD2.out.lt, hr3⟩
  have RD1 := hd (RD1'.out.keep hk)
  have RD2' := hd (RD2.out.keep hk)
  have RD3 := hd hrd
  have HX := hd (HX3.out.keep hk)
  have HB := hd (below_below HB3.out hk)
  have HW : Hid (w.heap.size ≤ w1.heap.size) := HW1.out
  clear hr3 hrd hk HX3 HB3 RD1' RD2
  obtain ⟨N, hN⟩ : ∃ N, N = w.heap.size := ⟨_, rfl⟩
  have HN : Hid (w.heap.size ≤ w1.heap.size ∧ w1.heap.size ≤ rb1 ∧ rb1 < w2.heap.size ∧ w2.heap.size ≤ rb2 ∧ rb2 < w3.heap.size ∧ w3.heap.size ≤ rb3 ∧ rb3 < w4.heap.size) :=
    ⟨HW.out, R1.out, R2.out.1, R2.out.2, R3.out.1, R3.out.2, RD3.out.lt⟩
  have HS : Hid (w4.heap.size ≤ w4.heap.size) := Nat.le_refl _
  clear R1 R2 R3 hN HW
  go_wp2_with fail
  refine (RU_is RD1.out n1 HS1.out).mono ?_
  rintro e w5 ⟨rfl, hrd, hk⟩
  have D1v5 := hd hrd
  have D2v5 := hd (RD2'.out.keepO hk (by have := HN.out; omega) (by have := HN.out; omega))
  have D3v5 := hd (RD3.out.keepO hk (by have := HN.out; omega) (by have := HN.out; omega))
  have Xv5 := hd (HX.out.keepO hk (by have := HN.out; omega))
  have Sv5 := hd (Nat.le_trans HS.out hk.size)
  have Bv5 := hd (HB.out.trans (hk.below _ HB.out.size (fun i hi e => by have := HN.out; omega)))
  clear hrd hk RD1 RD2' RD3 HX HS HB
  go_wp2_with fail
  refine (HU.out _).mono ?_
  rintro e w6 ⟨q1, c1, rfl, hbs, hk⟩
  have T1v6 := hd (hbs.weaken (A' := fun b => w4.heap.size ≤ b) (fun b _ h => Nat.le_trans Sv5.out h))
  have D1v6 := hd (D1v5.out.keep hk)
  have D2v6 := hd (D2v5.out.keep hk)
  have D3v6 := hd (D3v5.out.keep hk)
  have Xv6 := hd (Xv5.out.keep hk)
  have Sv6 := hd (Nat.le_trans Sv5.out hk.size)
  have Bv6 := hd (below_below Bv5.out hk)
  clear hbs hk D1v5 D2v5 D3v5 Xv5 Sv5 Bv5
  go_wp2_with fail
  refine (RS_is D2v6.out n2 HS2.out).mono ?_
  rintro e w7 ⟨rfl, hrd, hk⟩
  have D1v7 := hd (D1v6.out.keepO hk (by have := HN.out; omega) (by have := HN.out; omega))
  have D2v7 := hd hrd
  have D3v7 := hd (D3v6.out.keepO hk (by have := HN.out; omega) (by have := HN.out; omega))
  have Xv7 := hd (Xv6.out.keepO hk (by have := HN.out; omega))
  have Sv7 := hd (Nat.le_trans Sv6.out hk.size)
  have Bv7 := hd (Bv6.out.trans (hk.below _ Bv6.out.size (fun i hi e => by have := HN.out; omega)))
  have T1v7 := hd (T1v6.out.keepO hk (fun b hb e => by have := HN.out; omega))
  clear hrd hk D1v6 D2v6 D3v6 Xv6 Sv6 Bv6 T1v6
  go_wp2_with fail
  refine (HSS.out _).mono ?_
  rintro e w8 ⟨q2, c2, rfl, hbs, hk⟩
  have T2v8 := hd (hbs.weaken (A' := fun b => w4.heap.size ≤ b) (fun b _ h => Nat.le_trans Sv7.out h))
  have D1v8 := hd (D1v7.out.keep hk)
  have D2v8 := hd (D2v7.out.keep hk)
  have D3v8 := hd (D3v7.out.keep hk)
  have Xv8 := hd (Xv7.out.keep hk)
  have Sv8 := hd (Nat.le_trans Sv7.out hk.size)
  have Bv8 := hd (below_below Bv7.out hk)
  have T1v8 := hd (T1v7.out.keepB hk)
  clear hbs hk D1v7 D2v7 D3v7 Xv7 Sv7 Bv7 T1v7
  go_wp2_with fail
  refine (RText_str D3v8.out 60000 HS3.out).mono ?_
  rintro e w9 ⟨rfl, hrd, hk⟩
  have D1v9 := hd (D1v8.out.keepO hk (by have := HN.out; omega) (by have := HN.out; omega))
  have D2v9 := hd (D2v8.out.keepO hk (by have := HN.out; omega) (by have := HN.out; omega))
  have D3v9 := hd hrd
  have Xv9 := hd (Xv8.out.keepO hk (by have := HN.out; omega))
  have Sv9 := hd (Nat.le_trans Sv8.out hk.size)
  have Bv9 := hd (Bv8.out.trans (hk.below _ Bv8.out.size (fun i hi e => by have := HN.out; omega)))
  have T1v9 := hd (T1v8.out.keepO hk (fun b hb e => by have := HN.out; omega))
  have T2v9 := hd (T2v8.out.keepO hk (fun b hb e => by have := HN.out; omega))
  clear hrd hk D1v8 D2v8 D3v8 Xv8 Sv8 Bv8 T1v8 T2v8
  go_wp2_with fail
  refine (HTT.out _).mono ?_
  rintro e w10 ⟨q3, c3, rfl, hbs, hk⟩
  have T3v10 := hd (hbs.weaken (A' := fun b => w4.heap.size ≤ b) (fun b _ h => Nat.le_trans Sv9.out h))
  have D1v10 := hd (D1v9.out.keep hk)
  have D2v10 := hd (D2v9.out.keep hk)
  have D3v10 := hd (D3v9.out.keep hk)
  have Xv10 := hd (Xv9.out.keep hk)
  have Sv10 := hd (Nat.le_trans Sv9.out hk.size)
  have Bv10 := hd (below_below Bv9.out hk)
  have T1v10 := hd (T1v9.out.keepB hk)
  have T2v10 := hd (T2v9.out.keepB hk)
  clear hbs hk D1v9 D2v9 D3v9 Xv9 Sv9 Bv9 T1v9 T2v9
  go_wp2_with fail
  refine (Err_any D1v10.out).mono ?_
  rintro e v1 ⟨rfl, rfl⟩
  go_wp2_with fail
  refine (Err_any D2v10.out).mono ?_
  rintro e v2 ⟨rfl, rfl⟩
  go_wp2_with fail
  refine (Left_is D2v10.out m2 HM2.out).mono ?_
  rintro e u2 ⟨rfl, rfl⟩
  go_wp2_with fail
  refine (prefix_is Xv10.out T2v10.out HP2.out HL2.out).mono ?_
  rintro e t2 ⟨rfl, rfl⟩
  go_wp2_with fail
  refine (Err_any D3v10.out).mono ?_
  rintro e v3 ⟨rfl, rfl⟩
  go_wp2_with fail
  refine (Left_is D3v10.out m3 HM3.out).mono ?_
  rintro e u3 ⟨rfl, rfl⟩
  go_wp2_with fail
  refine (prefix_is Xv10.out T3v10.out HP3.out HL3.out).mono ?_
  rintro e t3 ⟨rfl, rfl⟩
  go_wp2
  go_ret
  exact ⟨rfl, Bv10.out⟩

set_option maxHeartbeats 4000000 in
theorem walkOEO (a : Option Addr) (len cap : Nat) (w : World) (l : List Int) (hx : Bx w.heap.size w (.slice a len cap) l) (hlen : l.length = len) (hb : len ≤ 140737488351232)
    (n1 n2 : Int) (bs l1 l2 l3 x1 x2 x3 : List Int) (e1 e2 e3 : Int) (k1 k2 k3 : Nat)
    (s1 : uStep 9007199254740991 l 0 = (n1, l1, 0)) (s2 : uStep 18014398509481982 l 0 = (n2, l2, e2)) (s3 : bStep (textR 60000 l) l 0 = (bs, l3, 0))
    (b1 : 0 ≤ n1) (b1' : n1 ≤ 9007199254740991) (b2 : 0 ≤ n2) (b2' : n2 ≤ 18014398509481982) (b3 : bs.length ≤ 60000) (b3' : Byt bs)
    (f1 : x1 = Num.enc n1) (f2 : x2 = Num.enc n2) (f3 : x3 = Num.enc bs.length ++ bs) (g1 : x1.length = k1) (g2 : x2.length = k2) (g3 : x3.length = k3) (p1 : 0 < x1.length) (p2 : 0 < x2.length) (p3 : 0 < x3.length)
    (hl1 : l = x1 ++ l1)
    (he2 : e2 ≠ 0)
    (hl3 : l = x3 ++ l3) :
    Calls Try.prog 6 #[.slice a len cap] w fun e w' => TrueEnd w e w' := by
  obtain ⟨m1, hm1⟩ : ∃ m, l1.length = m := ⟨_, rfl⟩
  have hsum1 : k1 + m1 = len := by have h := congrArg List.length hl1; rw [List.length_append] at h; omega
  have HL1 := hd hl1
  have HM1 := hd hm1
  have hq1 : ((k1 : Int) + (m1 : Int) == (len : Int)) = true := by rw [beq_iff_eq]; omega
  have hm1b : (m1 : Int) ≤ 140737488355328 := by omega
  clear hl1 hm1 hsum1
  have hn2 : (e2 != 0) = true := by rw [bne_iff_ne]; exact he2
  have HE2 := hd he2
  clear he2
  obtain ⟨m3, hm3⟩ : ∃ m, l3.length = m := ⟨_, rfl⟩
  have hsum3 : k3 + m3 = len := by have h := congrArg List.length hl3; rw [List.length_append] at h; omega
  have HL3 := hd hl3
  have HM3 := hd hm3
  have hq3 : ((k3 : Int) + (m3 : Int) == (len : Int)) = true := by rw [beq_iff_eq]; omega
  have hm3b : (m3 : Int) ≤ 140737488355328 := by omega
  clear hl3 hm3 hsum3
  have hk1 : (k1 : Int) ≤ 70000 := by
    have h1 := Num.enc_length n1
    have h2 := Num.sz_bd n1 b1
    have h3 : k1 = Num.sz n1 := by rw [← g1, f1, h1]
    omega
  have hk2 : (k2 : Int) ≤ 70000 := by
    have h1 := Num.enc_length n2
    have h2 := Num.sz_bd n2 b2
    have h3 : k2 = Num.sz n2 := by rw [← g2, f2, h1]
    omega
  have hk3 : (k3 : Int) ≤ 70000 := by
    have h1 := Num.enc_length bs.length
    have h2 := Num.sz_bd bs.length (by omega)
    have h3 : k3 = Num.sz bs.length + bs.length := by rw [← g3, f3, List.length_append, h1]
    omega
  have HP1 := hd p1
  have HP2 := hd p2
  have HP3 := hd p3
  have HBX := hd hx
  have HS1 := hd s1
  have HS2 := hd s2
  have HS3 := hd s3
  have HU : Hid (∀ w, Calls Try.prog 9 #[.int .i64 n1] w fun e w' => MadeK w x1 k1 e w') := by
    intro w; rw [f1]; exact (U_made n1 w b1 b1').mono (fun e w' h => madeK h k1 (by rw [← f1]; exact g1))
  have HSS : Hid (∀ w, Calls Try.prog 11 #[.int .i64 (unfoldI n2)] w fun e w' => MadeK w x2 k2 e w') := by
    intro w
    have hu := unfold_bd n2 b2 b2'
    have h := S_made (unfoldI n2) w hu.1 hu.2
    rw [fold_unfold n2 b2] at h
    rw [f2]; exact h.mono (fun e w' h => madeK h k2 (by rw [← f2]; exact g2))
  have HTT : Hid (∀ w, Calls Try.prog 13 #[.string (strOfNums bs)] w fun e w' => MadeK w x3 k3 e w') := by
    intro w
    rw [f3]; exact (Text_str bs b3' w (by omega)).mono (fun e w' h => madeK h k3 (by rw [← f3]; exact g3))
  clear hx s1 s2 s3 f1 f2 f3 g1 g2 g3 p1 p2 p3 hlen b3 b3' b1 b1' b2 b2'
  go_enter Try.func6, Try.ntmps6
  go_wp2_with fail
  refine (works_true _).mono ?_
  rintro e w1 ⟨rfl, hk⟩
  have HB1 := hd hk
  have HW1 := hd hk.size
  have HX1 := hd (HBX.out.keep hk)
  clear hk HBX
  go_wp2_with fail
  refine (New_bx HX1.out).mono ?_
  rintro e w2 ⟨rb1, rfl, hr1, hrd, hk⟩
  have R1 := hd hr1
  have RD1 := hd hrd
  have HX2 := hd (HX1.out.keep hk)
  have HB2 := hd (below_below HB1.out hk)
  clear hr1 hrd hk HX1 HB1
  go_wp2_with fail
  refine (New_bx HX2.out).mono ?_
  rintro e w3 ⟨rb2, rfl, hr2, hrd, hk⟩
  have R2 : Hid (rb1 < w2.heap.size ∧ w2.heap.size ≤ rb2) := ⟨RD1.out.lt, hr2⟩
  have RD1' := hd (RD1.out.keep hk)
  have RD2 := hd hrd
  have HX3 := hd (HX2.out.keep hk)
  have HB3 := hd (below_below HB2.out hk)
  clear hr2 hrd hk HX2 HB2 RD1
  go_wp2_with fail
  refine (New_bx HX3.out).mono ?_
  rintro e w4 ⟨rb3, rfl, hr3, hrd, hk⟩
  have R3 : Hid (rb2 < w3.heap.size ∧ w3.heap.size ≤ rb3) := ⟨RD2.out.lt, hr3⟩
  have RD1 := hd (RD1'.out.keep hk)
  have RD2' := hd (RD2.out.keep hk)
  have RD3 := hd hrd
  have HX := hd (HX3.out.keep hk)
  have HB := hd (below_below HB3.out hk)
  have HW : Hid (w.heap.size ≤ w1.heap.size) := HW1.out
  clear hr3 hrd hk HX3 HB3 RD1' RD2
  obtain ⟨N, hN⟩ : ∃ N, N = w.heap.size := ⟨_, rfl⟩
  have HN : Hid (w.heap.size ≤ w1.heap.size ∧ w1.heap.size ≤ rb1 ∧ rb1 < w2.heap.size ∧ w2.heap.size ≤ rb2 ∧ rb2 < w3.heap.size ∧ w3.heap.size ≤ rb3 ∧ rb3 < w4.heap.size) :=
    ⟨HW.out, R1.out, R2.out.1, R2.out.2, R3.out.1, R3.out.2, RD3.out.lt⟩
  have HS : Hid (w4.heap.size ≤ w4.heap.size) := Nat.le_refl _
  clear R1 R2 R3 hN HW
  go_wp2_with fail
  refine (RU_is RD1.out n1 HS1.out).mono ?_
  rintro e w5 ⟨rfl, hrd, hk⟩
  have D1v5 := hd hrd
  have D2v5 := hd (RD2'.out.keepO hk (by have := HN.out; omega) (by have := HN.out; omega))
  have D3v5 := hd (RD3.out.keepO hk (by have := HN.out; omega) (by have := HN.out; omega))
  have Xv5 := hd (HX.out.keepO hk (by have := HN.out; omega))
  have Sv5 := hd (Nat.le_trans HS.out hk.size)
  have Bv5 := hd (HB.out.trans (hk.below _ HB.out.size (fun i hi e => by have := HN.out; omega)))
  clear hrd hk RD1 RD2' RD3 HX HS HB
  go_wp2_with fail
  refine (HU.out _).mono ?_
  rintro e w6 ⟨q1, c1, rfl, hbs, hk⟩
  have T1v6 := hd (hbs.weaken (A' := fun b => w4.heap.size ≤ b) (fun b _ h => Nat.le_trans Sv5.out h))
  have D1v6 := hd (D1v5.out.keep hk)
  have D2v6 := hd (D2v5.out.keep hk)
  have D3v6 := hd (D3v5.out.keep hk)
  have Xv6 := hd (Xv5.out.keep hk)
  have Sv6 := hd (Nat.le_trans Sv5.out hk.size)
  have Bv6 := hd (below_below Bv5.out hk)
  clear hbs hk D1v5 D2v5 D3v5 Xv5 Sv5 Bv5
  go_wp2_with fail
  refine (RS_is D2v6.out n2 HS2.out).mono ?_
  rintro e w7 ⟨rfl, hrd, hk⟩
  have D1v7 := hd (D1v6.out.keepO hk (by have := HN.out; omega) (by have := HN.out; omega))
  have D2v7 := hd hrd
  have D3v7 := hd (D3v6.out.keepO hk (by have := HN.out; omega) (by have := HN.out; omega))
  have Xv7 := hd (Xv6.out.keepO hk (by have := HN.out; omega))
  have Sv7 := hd (Nat.le_trans Sv6.out hk.size)
  have Bv7 := hd (Bv6.out.trans (hk.below _ Bv6.out.size (fun i hi e => by have := HN.out; omega)))
  have T1v7 := hd (T1v6.out.keepO hk (fun b hb e => by have := HN.out; omega))
  clear hrd hk D1v6 D2v6 D3v6 Xv6 Sv6 Bv6 T1v6
  go_wp2_with fail
  refine (HSS.out _).mono ?_
  rintro e w8 ⟨q2, c2, rfl, hbs, hk⟩
  have T2v8 := hd (hbs.weaken (A' := fun b => w4.heap.size ≤ b) (fun b _ h => Nat.le_trans Sv7.out h))
  have D1v8 := hd (D1v7.out.keep hk)
  have D2v8 := hd (D2v7.out.keep hk)
  have D3v8 := hd (D3v7.out.keep hk)
  have Xv8 := hd (Xv7.out.keep hk)
  have Sv8 := hd (Nat.le_trans Sv7.out hk.size)
  have Bv8 := hd (below_below Bv7.out hk)
  have T1v8 := hd (T1v7.out.keepB hk)
  clear hbs hk D1v7 D2v7 D3v7 Xv7 Sv7 Bv7 T1v7
  go_wp2_with fail
  refine (RText_str D3v8.out 60000 HS3.out).mono ?_
  rintro e w9 ⟨rfl, hrd, hk⟩
  have D1v9 := hd (D1v8.out.keepO hk (by have := HN.out; omega) (by have := HN.out; omega))
  have D2v9 := hd (D2v8.out.keepO hk (by have := HN.out; omega) (by have := HN.out; omega))
  have D3v9 := hd hrd
  have Xv9 := hd (Xv8.out.keepO hk (by have := HN.out; omega))
  have Sv9 := hd (Nat.le_trans Sv8.out hk.size)
  have Bv9 := hd (Bv8.out.trans (hk.below _ Bv8.out.size (fun i hi e => by have := HN.out; omega)))
  have T1v9 := hd (T1v8.out.keepO hk (fun b hb e => by have := HN.out; omega))
  have T2v9 := hd (T2v8.out.keepO hk (fun b hb e => by have := HN.out; omega))
  clear hrd hk D1v8 D2v8 D3v8 Xv8 Sv8 Bv8 T1v8 T2v8
  go_wp2_with fail
  refine (HTT.out _).mono ?_
  rintro e w10 ⟨q3, c3, rfl, hbs, hk⟩
  have T3v10 := hd (hbs.weaken (A' := fun b => w4.heap.size ≤ b) (fun b _ h => Nat.le_trans Sv9.out h))
  have D1v10 := hd (D1v9.out.keep hk)
  have D2v10 := hd (D2v9.out.keep hk)
  have D3v10 := hd (D3v9.out.keep hk)
  have Xv10 := hd (Xv9.out.keep hk)
  have Sv10 := hd (Nat.le_trans Sv9.out hk.size)
  have Bv10 := hd (below_below Bv9.out hk)
  have T1v10 := hd (T1v9.out.keepB hk)
  have T2v10 := hd (T2v9.out.keepB hk)
  clear hbs hk D1v9 D2v9 D3v9 Xv9 Sv9 Bv9 T1v9 T2v9
  go_wp2_with fail
  refine (Err_any D1v10.out).mono ?_
  rintro e v1 ⟨rfl, rfl⟩
  go_wp2_with fail
  refine (Left_is D1v10.out m1 HM1.out).mono ?_
  rintro e u1 ⟨rfl, rfl⟩
  go_wp2_with fail
  refine (prefix_is Xv10.out T1v10.out HP1.out HL1.out).mono ?_
  rintro e t1 ⟨rfl, rfl⟩
  go_wp2_with fail
  refine (Err_any D2v10.out).mono ?_
  rintro e v2 ⟨rfl, rfl⟩
  go_wp2_with fail
  refine (Err_any D3v10.out).mono ?_
  rintro e v3 ⟨rfl, rfl⟩
  go_wp2_with fail
  refine (Left_is D3v10.out m3 HM3.out).mono ?_
  rintro e u3 ⟨rfl, rfl⟩
  go_wp2_with fail
  refine (prefix_is Xv10.out T3v10.out HP3.out HL3.out).mono ?_
  rintro e t3 ⟨rfl, rfl⟩
  go_wp2
  go_ret
  exact ⟨rfl, Bv10.out⟩

set_option maxHeartbeats 4000000 in
theorem walkEEO (a : Option Addr) (len cap : Nat) (w : World) (l : List Int) (hx : Bx w.heap.size w (.slice a len cap) l) (hlen : l.length = len) (hb : len ≤ 140737488351232)
    (n1 n2 : Int) (bs l1 l2 l3 x1 x2 x3 : List Int) (e1 e2 e3 : Int) (k1 k2 k3 : Nat)
    (s1 : uStep 9007199254740991 l 0 = (n1, l1, e1)) (s2 : uStep 18014398509481982 l 0 = (n2, l2, e2)) (s3 : bStep (textR 60000 l) l 0 = (bs, l3, 0))
    (b1 : 0 ≤ n1) (b1' : n1 ≤ 9007199254740991) (b2 : 0 ≤ n2) (b2' : n2 ≤ 18014398509481982) (b3 : bs.length ≤ 60000) (b3' : Byt bs)
    (f1 : x1 = Num.enc n1) (f2 : x2 = Num.enc n2) (f3 : x3 = Num.enc bs.length ++ bs) (g1 : x1.length = k1) (g2 : x2.length = k2) (g3 : x3.length = k3) (p1 : 0 < x1.length) (p2 : 0 < x2.length) (p3 : 0 < x3.length)
    (he1 : e1 ≠ 0)
    (he2 : e2 ≠ 0)
    (hl3 : l = x3 ++ l3) :
    Calls Try.prog 6 #[.slice a len cap] w fun e w' => TrueEnd w e w' := by
  have hn1 : (e1 != 0) = true := by rw [bne_iff_ne]; exact he1
  have HE1 := hd he1
  clear he1
  have hn2 : (e2 != 0) = true := by rw [bne_iff_ne]; exact he2
  have HE2 := hd he2
  clear he2
  obtain ⟨m3, hm3⟩ : ∃ m, l3.length = m := ⟨_, rfl⟩
  have hsum3 : k3 + m3 = len := by have h := congrArg List.length hl3; rw [List.length_append] at h; omega
  have HL3 := hd hl3
  have HM3 := hd hm3
  have hq3 : ((k3 : Int) + (m3 : Int) == (len : Int)) = true := by rw [beq_iff_eq]; omega
  have hm3b : (m3 : Int) ≤ 140737488355328 := by omega
  clear hl3 hm3 hsum3
  have hk1 : (k1 : Int) ≤ 70000 := by
    have h1 := Num.enc_length n1
    have h2 := Num.sz_bd n1 b1
    have h3 : k1 = Num.sz n1 := by rw [← g1, f1, h1]
    omega
  have hk2 : (k2 : Int) ≤ 70000 := by
    have h1 := Num.enc_length n2
    have h2 := Num.sz_bd n2 b2
    have h3 : k2 = Num.sz n2 := by rw [← g2, f2, h1]
    omega
  have hk3 : (k3 : Int) ≤ 70000 := by
    have h1 := Num.enc_length bs.length
    have h2 := Num.sz_bd bs.length (by omega)
    have h3 : k3 = Num.sz bs.length + bs.length := by rw [← g3, f3, List.length_append, h1]
    omega
  have HP1 := hd p1
  have HP2 := hd p2
  have HP3 := hd p3
  have HBX := hd hx
  have HS1 := hd s1
  have HS2 := hd s2
  have HS3 := hd s3
  have HU : Hid (∀ w, Calls Try.prog 9 #[.int .i64 n1] w fun e w' => MadeK w x1 k1 e w') := by
    intro w; rw [f1]; exact (U_made n1 w b1 b1').mono (fun e w' h => madeK h k1 (by rw [← f1]; exact g1))
  have HSS : Hid (∀ w, Calls Try.prog 11 #[.int .i64 (unfoldI n2)] w fun e w' => MadeK w x2 k2 e w') := by
    intro w
    have hu := unfold_bd n2 b2 b2'
    have h := S_made (unfoldI n2) w hu.1 hu.2
    rw [fold_unfold n2 b2] at h
    rw [f2]; exact h.mono (fun e w' h => madeK h k2 (by rw [← f2]; exact g2))
  have HTT : Hid (∀ w, Calls Try.prog 13 #[.string (strOfNums bs)] w fun e w' => MadeK w x3 k3 e w') := by
    intro w
    rw [f3]; exact (Text_str bs b3' w (by omega)).mono (fun e w' h => madeK h k3 (by rw [← f3]; exact g3))
  clear hx s1 s2 s3 f1 f2 f3 g1 g2 g3 p1 p2 p3 hlen b3 b3' b1 b1' b2 b2'
  go_enter Try.func6, Try.ntmps6
  go_wp2_with fail
  refine (works_true _).mono ?_
  rintro e w1 ⟨rfl, hk⟩
  have HB1 := hd hk
  have HW1 := hd hk.size
  have HX1 := hd (HBX.out.keep hk)
  clear hk HBX
  go_wp2_with fail
  refine (New_bx HX1.out).mono ?_
  rintro e w2 ⟨rb1, rfl, hr1, hrd, hk⟩
  have R1 := hd hr1
  have RD1 := hd hrd
  have HX2 := hd (HX1.out.keep hk)
  have HB2 := hd (below_below HB1.out hk)
  clear hr1 hrd hk HX1 HB1
  go_wp2_with fail
  refine (New_bx HX2.out).mono ?_
  rintro e w3 ⟨rb2, rfl, hr2, hrd, hk⟩
  have R2 : Hid (rb1 < w2.heap.size ∧ w2.heap.size ≤ rb2) := ⟨RD1.out.lt, hr2⟩
  have RD1' := hd (RD1.out.keep hk)
  have RD2 := hd hrd
  have HX3 := hd (HX2.out.keep hk)
  have HB3 := hd (below_below HB2.out hk)
  clear hr2 hrd hk HX2 HB2 RD1
  go_wp2_with fail
  refine (New_bx HX3.out).mono ?_
  rintro e w4 ⟨rb3, rfl, hr3, hrd, hk⟩
  have R3 : Hid (rb2 < w3.heap.size ∧ w3.heap.size ≤ rb3) := ⟨RD2.out.lt, hr3⟩
  have RD1 := hd (RD1'.out.keep hk)
  have RD2' := hd (RD2.out.keep hk)
  have RD3 := hd hrd
  have HX := hd (HX3.out.keep hk)
  have HB := hd (below_below HB3.out hk)
  have HW : Hid (w.heap.size ≤ w1.heap.size) := HW1.out
  clear hr3 hrd hk HX3 HB3 RD1' RD2
  obtain ⟨N, hN⟩ : ∃ N, N = w.heap.size := ⟨_, rfl⟩
  have HN : Hid (w.heap.size ≤ w1.heap.size ∧ w1.heap.size ≤ rb1 ∧ rb1 < w2.heap.size ∧ w2.heap.size ≤ rb2 ∧ rb2 < w3.heap.size ∧ w3.heap.size ≤ rb3 ∧ rb3 < w4.heap.size) :=
    ⟨HW.out, R1.out, R2.out.1, R2.out.2, R3.out.1, R3.out.2, RD3.out.lt⟩
  have HS : Hid (w4.heap.size ≤ w4.heap.size) := Nat.le_refl _
  clear R1 R2 R3 hN HW
  go_wp2_with fail
  refine (RU_is RD1.out n1 HS1.out).mono ?_
  rintro e w5 ⟨rfl, hrd, hk⟩
  have D1v5 := hd hrd
  have D2v5 := hd (RD2'.out.keepO hk (by have := HN.out; omega) (by have := HN.out; omega))
  have D3v5 := hd (RD3.out.keepO hk (by have := HN.out; omega) (by have := HN.out; omega))
  have Xv5 := hd (HX.out.keepO hk (by have := HN.out; omega))
  have Sv5 := hd (Nat.le_trans HS.out hk.size)
  have Bv5 := hd (HB.out.trans (hk.below _ HB.out.size (fun i hi e => by have := HN.out; omega)))
  clear hrd hk RD1 RD2' RD3 HX HS HB
  go_wp2_with fail
  refine (HU.out _).mono ?_
  rintro e w6 ⟨q1, c1, rfl, hbs, hk⟩
  have T1v6 := hd (hbs.weaken (A' := fun b => w4.heap.size ≤ b) (fun b _ h => Nat.le_trans Sv5.out h))
  have D1v6 := hd (D1v5.out.keep hk)
  have D2v6 := hd (D2v5.out.keep hk)
  have D3v6 := hd (D3v5.out.keep hk)
  have Xv6 := hd (Xv5.out.keep hk)
  have Sv6 := hd (Nat.le_trans Sv5.out hk.size)
  have Bv6 := hd (below_below Bv5.out hk)
  clear hbs hk D1v5 D2v5 D3v5 Xv5 Sv5 Bv5
  go_wp2_with fail
  refine (RS_is D2v6.out n2 HS2.out).mono ?_
  rintro e w7 ⟨rfl, hrd, hk⟩
  have D1v7 := hd (D1v6.out.keepO hk (by have := HN.out; omega) (by have := HN.out; omega))
  have D2v7 := hd hrd
  have D3v7 := hd (D3v6.out.keepO hk (by have := HN.out; omega) (by have := HN.out; omega))
  have Xv7 := hd (Xv6.out.keepO hk (by have := HN.out; omega))
  have Sv7 := hd (Nat.le_trans Sv6.out hk.size)
  have Bv7 := hd (Bv6.out.trans (hk.below _ Bv6.out.size (fun i hi e => by have := HN.out; omega)))
  have T1v7 := hd (T1v6.out.keepO hk (fun b hb e => by have := HN.out; omega))
  clear hrd hk D1v6 D2v6 D3v6 Xv6 Sv6 Bv6 T1v6
  go_wp2_with fail
  refine (HSS.out _).mono ?_
  rintro e w8 ⟨q2, c2, rfl, hbs, hk⟩
  have T2v8 := hd (hbs.weaken (A' := fun b => w4.heap.size ≤ b) (fun b _ h => Nat.le_trans Sv7.out h))
  have D1v8 := hd (D1v7.out.keep hk)
  have D2v8 := hd (D2v7.out.keep hk)
  have D3v8 := hd (D3v7.out.keep hk)
  have Xv8 := hd (Xv7.out.keep hk)
  have Sv8 := hd (Nat.le_trans Sv7.out hk.size)
  have Bv8 := hd (below_below Bv7.out hk)
  have T1v8 := hd (T1v7.out.keepB hk)
  clear hbs hk D1v7 D2v7 D3v7 Xv7 Sv7 Bv7 T1v7
  go_wp2_with fail
  refine (RText_str D3v8.out 60000 HS3.out).mono ?_
  rintro e w9 ⟨rfl, hrd, hk⟩
  have D1v9 := hd (D1v8.out.keepO hk (by have := HN.out; omega) (by have := HN.out; omega))
  have D2v9 := hd (D2v8.out.keepO hk (by have := HN.out; omega) (by have := HN.out; omega))
  have D3v9 := hd hrd
  have Xv9 := hd (Xv8.out.keepO hk (by have := HN.out; omega))
  have Sv9 := hd (Nat.le_trans Sv8.out hk.size)
  have Bv9 := hd (Bv8.out.trans (hk.below _ Bv8.out.size (fun i hi e => by have := HN.out; omega)))
  have T1v9 := hd (T1v8.out.keepO hk (fun b hb e => by have := HN.out; omega))
  have T2v9 := hd (T2v8.out.keepO hk (fun b hb e => by have := HN.out; omega))
  clear hrd hk D1v8 D2v8 D3v8 Xv8 Sv8 Bv8 T1v8 T2v8
  go_wp2_with fail
  refine (HTT.out _).mono ?_
  rintro e w10 ⟨q3, c3, rfl, hbs, hk⟩
  have T3v10 := hd (hbs.weaken (A' := fun b => w4.heap.size ≤ b) (fun b _ h => Nat.le_trans Sv9.out h))
  have D1v10 := hd (D1v9.out.keep hk)
  have D2v10 := hd (D2v9.out.keep hk)
  have D3v10 := hd (D3v9.out.keep hk)
  have Xv10 := hd (Xv9.out.keep hk)
  have Sv10 := hd (Nat.le_trans Sv9.out hk.size)
  have Bv10 := hd (below_below Bv9.out hk)
  have T1v10 := hd (T1v9.out.keepB hk)
  have T2v10 := hd (T2v9.out.keepB hk)
  clear hbs hk D1v9 D2v9 D3v9 Xv9 Sv9 Bv9 T1v9 T2v9
  go_wp2_with fail
  refine (Err_any D1v10.out).mono ?_
  rintro e v1 ⟨rfl, rfl⟩
  go_wp2_with fail
  refine (Err_any D2v10.out).mono ?_
  rintro e v2 ⟨rfl, rfl⟩
  go_wp2_with fail
  refine (Err_any D3v10.out).mono ?_
  rintro e v3 ⟨rfl, rfl⟩
  go_wp2_with fail
  refine (Left_is D3v10.out m3 HM3.out).mono ?_
  rintro e u3 ⟨rfl, rfl⟩
  go_wp2_with fail
  refine (prefix_is Xv10.out T3v10.out HP3.out HL3.out).mono ?_
  rintro e t3 ⟨rfl, rfl⟩
  go_wp2
  go_ret
  exact ⟨rfl, Bv10.out⟩

set_option maxHeartbeats 4000000 in
theorem walkOOE (a : Option Addr) (len cap : Nat) (w : World) (l : List Int) (hx : Bx w.heap.size w (.slice a len cap) l) (hlen : l.length = len) (hb : len ≤ 140737488351232)
    (n1 n2 : Int) (bs l1 l2 l3 x1 x2 x3 : List Int) (e1 e2 e3 : Int) (k1 k2 k3 : Nat)
    (s1 : uStep 9007199254740991 l 0 = (n1, l1, 0)) (s2 : uStep 18014398509481982 l 0 = (n2, l2, 0)) (s3 : bStep (textR 60000 l) l 0 = (bs, l3, e3))
    (b1 : 0 ≤ n1) (b1' : n1 ≤ 9007199254740991) (b2 : 0 ≤ n2) (b2' : n2 ≤ 18014398509481982) (b3 : bs.length ≤ 60000) (b3' : Byt bs)
    (f1 : x1 = Num.enc n1) (f2 : x2 = Num.enc n2) (f3 : x3 = Num.enc bs.length ++ bs) (g1 : x1.length = k1) (g2 : x2.length = k2) (g3 : x3.length = k3) (p1 : 0 < x1.length) (p2 : 0 < x2.length) (p3 : 0 < x3.length)
    (hl1 : l = x1 ++ l1)
    (hl2 : l = x2 ++ l2)
    (he3 : e3 ≠ 0) :
    Calls Try.prog 6 #[.slice a len cap] w fun e w' => TrueEnd w e w' := by
  obtain ⟨m1, hm1⟩ : ∃ m, l1.length = m := ⟨_, rfl⟩
  have hsum1 : k1 + m1 = len := by have h := congrArg List.length hl1; rw [List.length_append] at h; omega
  have HL1 := hd hl1
  have HM1 := hd hm1
  have hq1 : ((k1 : Int) + (m1 : Int) == (len : Int)) = true := by rw [beq_iff_eq]; omega
  have hm1b : (m1 : Int) ≤ 140737488355328 := by omega
  clear hl1 hm1 hsum1
  obtain ⟨m2, hm2⟩ : ∃ m, l2.length = m := ⟨_, rfl⟩
  have hsum2 : k2 + m2 = len := by have h := congrArg List.length hl2; rw [List.length_append] at h; omega
  have HL2 := hd hl2
  have HM2 := hd hm2
  have hq2 : ((k2 : Int) + (m2 : Int) == (len : Int)) = true := by rw [beq_iff_eq]; omega
  have hm2b : (m2 : Int) ≤ 140737488355328 := by omega
  clear hl2 hm2 hsum2
  have hn3 : (e3 != 0) = true := by rw [bne_iff_ne]; exact he3
  have HE3 := hd he3
  clear he3
  have hk1 : (k1 : Int) ≤ 70000 := by
    have h1 := Num.enc_length n1
    have h2 := Num.sz_bd n1 b1
    have h3 : k1 = Num.sz n1 := by rw [← g1, f1, h1]
    omega
  have hk2 : (k2 : Int) ≤ 70000 := by
    have h1 := Num.enc_length n2
    have h2 := Num.sz_bd n2 b2
    have h3 : k2 = Num.sz n2 := by rw [← g2, f2, h1]
    omega
  have hk3 : (k3 : Int) ≤ 70000 := by
    have h1 := Num.enc_length bs.length
    have h2 := Num.sz_bd bs.length (by omega)
    have h3 : k3 = Num.sz bs.length + bs.length := by rw [← g3, f3, List.length_append, h1]
    omega
  have HP1 := hd p1
  have HP2 := hd p2
  have HP3 := hd p3
  have HBX := hd hx
  have HS1 := hd s1
  have HS2 := hd s2
  have HS3 := hd s3
  have HU : Hid (∀ w, Calls Try.prog 9 #[.int .i64 n1] w fun e w' => MadeK w x1 k1 e w') := by
    intro w; rw [f1]; exact (U_made n1 w b1 b1').mono (fun e w' h => madeK h k1 (by rw [← f1]; exact g1))
  have HSS : Hid (∀ w, Calls Try.prog 11 #[.int .i64 (unfoldI n2)] w fun e w' => MadeK w x2 k2 e w') := by
    intro w
    have hu := unfold_bd n2 b2 b2'
    have h := S_made (unfoldI n2) w hu.1 hu.2
    rw [fold_unfold n2 b2] at h
    rw [f2]; exact h.mono (fun e w' h => madeK h k2 (by rw [← f2]; exact g2))
  have HTT : Hid (∀ w, Calls Try.prog 13 #[.string (strOfNums bs)] w fun e w' => MadeK w x3 k3 e w') := by
    intro w
    rw [f3]; exact (Text_str bs b3' w (by omega)).mono (fun e w' h => madeK h k3 (by rw [← f3]; exact g3))
  clear hx s1 s2 s3 f1 f2 f3 g1 g2 g3 p1 p2 p3 hlen b3 b3' b1 b1' b2 b2'
  go_enter Try.func6, Try.ntmps6
  go_wp2_with fail
  refine (works_true _).mono ?_
  rintro e w1 ⟨rfl, hk⟩
  have HB1 := hd hk
  have HW1 := hd hk.size
  have HX1 := hd (HBX.out.keep hk)
  clear hk HBX
  go_wp2_with fail
  refine (New_bx HX1.out).mono ?_
  rintro e w2 ⟨rb1, rfl, hr1, hrd, hk⟩
  have R1 := hd hr1
  have RD1 := hd hrd
  have HX2 := hd (HX1.out.keep hk)
  have HB2 := hd (below_below HB1.out hk)
  clear hr1 hrd hk HX1 HB1
  go_wp2_with fail
  refine (New_bx HX2.out).mono ?_
  rintro e w3 ⟨rb2, rfl, hr2, hrd, hk⟩
  have R2 : Hid (rb1 < w2.heap.size ∧ w2.heap.size ≤ rb2) := ⟨RD1.out.lt, hr2⟩
  have RD1' := hd (RD1.out.keep hk)
  have RD2 := hd hrd
  have HX3 := hd (HX2.out.keep hk)
  have HB3 := hd (below_below HB2.out hk)
  clear hr2 hrd hk HX2 HB2 RD1
  go_wp2_with fail
  refine (New_bx HX3.out).mono ?_
  rintro e w4 ⟨rb3, rfl, hr3, hrd, hk⟩
  have R3 : Hid (rb2 < w3.heap.size ∧ w3.heap.size ≤ rb3) := ⟨RD2.out.lt, hr3⟩
  have RD1 := hd (RD1'.out.keep hk)
  have RD2' := hd (RD2.out.keep hk)
  have RD3 := hd hrd
  have HX := hd (HX3.out.keep hk)
  have HB := hd (below_below HB3.out hk)
  have HW : Hid (w.heap.size ≤ w1.heap.size) := HW1.out
  clear hr3 hrd hk HX3 HB3 RD1' RD2
  obtain ⟨N, hN⟩ : ∃ N, N = w.heap.size := ⟨_, rfl⟩
  have HN : Hid (w.heap.size ≤ w1.heap.size ∧ w1.heap.size ≤ rb1 ∧ rb1 < w2.heap.size ∧ w2.heap.size ≤ rb2 ∧ rb2 < w3.heap.size ∧ w3.heap.size ≤ rb3 ∧ rb3 < w4.heap.size) :=
    ⟨HW.out, R1.out, R2.out.1, R2.out.2, R3.out.1, R3.out.2, RD3.out.lt⟩
  have HS : Hid (w4.heap.size ≤ w4.heap.size) := Nat.le_refl _
  clear R1 R2 R3 hN HW
  go_wp2_with fail
  refine (RU_is RD1.out n1 HS1.out).mono ?_
  rintro e w5 ⟨rfl, hrd, hk⟩
  have D1v5 := hd hrd
  have D2v5 := hd (RD2'.out.keepO hk (by have := HN.out; omega) (by have := HN.out; omega))
  have D3v5 := hd (RD3.out.keepO hk (by have := HN.out; omega) (by have := HN.out; omega))
  have Xv5 := hd (HX.out.keepO hk (by have := HN.out; omega))
  have Sv5 := hd (Nat.le_trans HS.out hk.size)
  have Bv5 := hd (HB.out.trans (hk.below _ HB.out.size (fun i hi e => by have := HN.out; omega)))
  clear hrd hk RD1 RD2' RD3 HX HS HB
  go_wp2_with fail
  refine (HU.out _).mono ?_
  rintro e w6 ⟨q1, c1, rfl, hbs, hk⟩
  have T1v6 := hd (hbs.weaken (A' := fun b => w4.heap.size ≤ b) (fun b _ h => Nat.le_trans Sv5.out h))
  have D1v6 := hd (D1v5.out.keep hk)
  have D2v6 := hd (D2v5.out.keep hk)
  have D3v6 := hd (D3v5.out.keep hk)
  have Xv6 := hd (Xv5.out.keep hk)
  have Sv6 := hd (Nat.le_trans Sv5.out hk.size)
  have Bv6 := hd (below_below Bv5.out hk)
  clear hbs hk D1v5 D2v5 D3v5 Xv5 Sv5 Bv5
  go_wp2_with fail
  refine (RS_is D2v6.out n2 HS2.out).mono ?_
  rintro e w7 ⟨rfl, hrd, hk⟩
  have D1v7 := hd (D1v6.out.keepO hk (by have := HN.out; omega) (by have := HN.out; omega))
  have D2v7 := hd hrd
  have D3v7 := hd (D3v6.out.keepO hk (by have := HN.out; omega) (by have := HN.out; omega))
  have Xv7 := hd (Xv6.out.keepO hk (by have := HN.out; omega))
  have Sv7 := hd (Nat.le_trans Sv6.out hk.size)
  have Bv7 := hd (Bv6.out.trans (hk.below _ Bv6.out.size (fun i hi e => by have := HN.out; omega)))
  have T1v7 := hd (T1v6.out.keepO hk (fun b hb e => by have := HN.out; omega))
  clear hrd hk D1v6 D2v6 D3v6 Xv6 Sv6 Bv6 T1v6
  go_wp2_with fail
  refine (HSS.out _).mono ?_
  rintro e w8 ⟨q2, c2, rfl, hbs, hk⟩
  have T2v8 := hd (hbs.weaken (A' := fun b => w4.heap.size ≤ b) (fun b _ h => Nat.le_trans Sv7.out h))
  have D1v8 := hd (D1v7.out.keep hk)
  have D2v8 := hd (D2v7.out.keep hk)
  have D3v8 := hd (D3v7.out.keep hk)
  have Xv8 := hd (Xv7.out.keep hk)
  have Sv8 := hd (Nat.le_trans Sv7.out hk.size)
  have Bv8 := hd (below_below Bv7.out hk)
  have T1v8 := hd (T1v7.out.keepB hk)
  clear hbs hk D1v7 D2v7 D3v7 Xv7 Sv7 Bv7 T1v7
  go_wp2_with fail
  refine (RText_str D3v8.out 60000 HS3.out).mono ?_
  rintro e w9 ⟨rfl, hrd, hk⟩
  have D1v9 := hd (D1v8.out.keepO hk (by have := HN.out; omega) (by have := HN.out; omega))
  have D2v9 := hd (D2v8.out.keepO hk (by have := HN.out; omega) (by have := HN.out; omega))
  have D3v9 := hd hrd
  have Xv9 := hd (Xv8.out.keepO hk (by have := HN.out; omega))
  have Sv9 := hd (Nat.le_trans Sv8.out hk.size)
  have Bv9 := hd (Bv8.out.trans (hk.below _ Bv8.out.size (fun i hi e => by have := HN.out; omega)))
  have T1v9 := hd (T1v8.out.keepO hk (fun b hb e => by have := HN.out; omega))
  have T2v9 := hd (T2v8.out.keepO hk (fun b hb e => by have := HN.out; omega))
  clear hrd hk D1v8 D2v8 D3v8 Xv8 Sv8 Bv8 T1v8 T2v8
  go_wp2_with fail
  refine (HTT.out _).mono ?_
  rintro e w10 ⟨q3, c3, rfl, hbs, hk⟩
  have T3v10 := hd (hbs.weaken (A' := fun b => w4.heap.size ≤ b) (fun b _ h => Nat.le_trans Sv9.out h))
  have D1v10 := hd (D1v9.out.keep hk)
  have D2v10 := hd (D2v9.out.keep hk)
  have D3v10 := hd (D3v9.out.keep hk)
  have Xv10 := hd (Xv9.out.keep hk)
  have Sv10 := hd (Nat.le_trans Sv9.out hk.size)
  have Bv10 := hd (below_below Bv9.out hk)
  have T1v10 := hd (T1v9.out.keepB hk)
  have T2v10 := hd (T2v9.out.keepB hk)
  clear hbs hk D1v9 D2v9 D3v9 Xv9 Sv9 Bv9 T1v9 T2v9
  go_wp2_with fail
  refine (Err_any D1v10.out).mono ?_
  rintro e v1 ⟨rfl, rfl⟩
  go_wp2_with fail
  refine (Left_is D1v10.out m1 HM1.out).mono ?_
  rintro e u1 ⟨rfl, rfl⟩
  go_wp2_with fail
  refine (prefix_is Xv10.out T1v10.out HP1.out HL1.out).mono ?_
  rintro e t1 ⟨rfl, rfl⟩
  go_wp2_with fail
  refine (Err_any D2v10.out).mono ?_
  rintro e v2 ⟨rfl, rfl⟩
  go_wp2_with fail
  refine (Left_is D2v10.out m2 HM2.out).mono ?_
  rintro e u2 ⟨rfl, rfl⟩
  go_wp2_with fail
  refine (prefix_is Xv10.out T2v10.out HP2.out HL2.out).mono ?_
  rintro e t2 ⟨rfl, rfl⟩
  go_wp2_with fail
  refine (Err_any D3v10.out).mono ?_
  rintro e v3 ⟨rfl, rfl⟩
  go_wp2
  go_ret
  exact ⟨rfl, Bv10.out⟩

set_option maxHeartbeats 4000000 in
theorem walkEOE (a : Option Addr) (len cap : Nat) (w : World) (l : List Int) (hx : Bx w.heap.size w (.slice a len cap) l) (hlen : l.length = len) (hb : len ≤ 140737488351232)
    (n1 n2 : Int) (bs l1 l2 l3 x1 x2 x3 : List Int) (e1 e2 e3 : Int) (k1 k2 k3 : Nat)
    (s1 : uStep 9007199254740991 l 0 = (n1, l1, e1)) (s2 : uStep 18014398509481982 l 0 = (n2, l2, 0)) (s3 : bStep (textR 60000 l) l 0 = (bs, l3, e3))
    (b1 : 0 ≤ n1) (b1' : n1 ≤ 9007199254740991) (b2 : 0 ≤ n2) (b2' : n2 ≤ 18014398509481982) (b3 : bs.length ≤ 60000) (b3' : Byt bs)
    (f1 : x1 = Num.enc n1) (f2 : x2 = Num.enc n2) (f3 : x3 = Num.enc bs.length ++ bs) (g1 : x1.length = k1) (g2 : x2.length = k2) (g3 : x3.length = k3) (p1 : 0 < x1.length) (p2 : 0 < x2.length) (p3 : 0 < x3.length)
    (he1 : e1 ≠ 0)
    (hl2 : l = x2 ++ l2)
    (he3 : e3 ≠ 0) :
    Calls Try.prog 6 #[.slice a len cap] w fun e w' => TrueEnd w e w' := by
  have hn1 : (e1 != 0) = true := by rw [bne_iff_ne]; exact he1
  have HE1 := hd he1
  clear he1
  obtain ⟨m2, hm2⟩ : ∃ m, l2.length = m := ⟨_, rfl⟩
  have hsum2 : k2 + m2 = len := by have h := congrArg List.length hl2; rw [List.length_append] at h; omega
  have HL2 := hd hl2
  have HM2 := hd hm2
  have hq2 : ((k2 : Int) + (m2 : Int) == (len : Int)) = true := by rw [beq_iff_eq]; omega
  have hm2b : (m2 : Int) ≤ 140737488355328 := by omega
  clear hl2 hm2 hsum2
  have hn3 : (e3 != 0) = true := by rw [bne_iff_ne]; exact he3
  have HE3 := hd he3
  clear he3
  have hk1 : (k1 : Int) ≤ 70000 := by
    have h1 := Num.enc_length n1
    have h2 := Num.sz_bd n1 b1
    have h3 : k1 = Num.sz n1 := by rw [← g1, f1, h1]
    omega
  have hk2 : (k2 : Int) ≤ 70000 := by
    have h1 := Num.enc_length n2
    have h2 := Num.sz_bd n2 b2
    have h3 : k2 = Num.sz n2 := by rw [← g2, f2, h1]
    omega
  have hk3 : (k3 : Int) ≤ 70000 := by
    have h1 := Num.enc_length bs.length
    have h2 := Num.sz_bd bs.length (by omega)
    have h3 : k3 = Num.sz bs.length + bs.length := by rw [← g3, f3, List.length_append, h1]
    omega
  have HP1 := hd p1
  have HP2 := hd p2
  have HP3 := hd p3
  have HBX := hd hx
  have HS1 := hd s1
  have HS2 := hd s2
  have HS3 := hd s3
  have HU : Hid (∀ w, Calls Try.prog 9 #[.int .i64 n1] w fun e w' => MadeK w x1 k1 e w') := by
    intro w; rw [f1]; exact (U_made n1 w b1 b1').mono (fun e w' h => madeK h k1 (by rw [← f1]; exact g1))
  have HSS : Hid (∀ w, Calls Try.prog 11 #[.int .i64 (unfoldI n2)] w fun e w' => MadeK w x2 k2 e w') := by
    intro w
    have hu := unfold_bd n2 b2 b2'
    have h := S_made (unfoldI n2) w hu.1 hu.2
    rw [fold_unfold n2 b2] at h
    rw [f2]; exact h.mono (fun e w' h => madeK h k2 (by rw [← f2]; exact g2))
  have HTT : Hid (∀ w, Calls Try.prog 13 #[.string (strOfNums bs)] w fun e w' => MadeK w x3 k3 e w') := by
    intro w
    rw [f3]; exact (Text_str bs b3' w (by omega)).mono (fun e w' h => madeK h k3 (by rw [← f3]; exact g3))
  clear hx s1 s2 s3 f1 f2 f3 g1 g2 g3 p1 p2 p3 hlen b3 b3' b1 b1' b2 b2'
  go_enter Try.func6, Try.ntmps6
  go_wp2_with fail
  refine (works_true _).mono ?_
  rintro e w1 ⟨rfl, hk⟩
  have HB1 := hd hk
  have HW1 := hd hk.size
  have HX1 := hd (HBX.out.keep hk)
  clear hk HBX
  go_wp2_with fail
  refine (New_bx HX1.out).mono ?_
  rintro e w2 ⟨rb1, rfl, hr1, hrd, hk⟩
  have R1 := hd hr1
  have RD1 := hd hrd
  have HX2 := hd (HX1.out.keep hk)
  have HB2 := hd (below_below HB1.out hk)
  clear hr1 hrd hk HX1 HB1
  go_wp2_with fail
  refine (New_bx HX2.out).mono ?_
  rintro e w3 ⟨rb2, rfl, hr2, hrd, hk⟩
  have R2 : Hid (rb1 < w2.heap.size ∧ w2.heap.size ≤ rb2) := ⟨RD1.out.lt, hr2⟩
  have RD1' := hd (RD1.out.keep hk)
  have RD2 := hd hrd
  have HX3 := hd (HX2.out.keep hk)
  have HB3 := hd (below_below HB2.out hk)
  clear hr2 hrd hk HX2 HB2 RD1
  go_wp2_with fail
  refine (New_bx HX3.out).mono ?_
  rintro e w4 ⟨rb3, rfl, hr3, hrd, hk⟩
  have R3 : Hid (rb2 < w3.heap.size ∧ w3.heap.size ≤ rb3) := ⟨RD2.out.lt, hr3⟩
  have RD1 := hd (RD1'.out.keep hk)
  have RD2' := hd (RD2.out.keep hk)
  have RD3 := hd hrd
  have HX := hd (HX3.out.keep hk)
  have HB := hd (below_below HB3.out hk)
  have HW : Hid (w.heap.size ≤ w1.heap.size) := HW1.out
  clear hr3 hrd hk HX3 HB3 RD1' RD2
  obtain ⟨N, hN⟩ : ∃ N, N = w.heap.size := ⟨_, rfl⟩
  have HN : Hid (w.heap.size ≤ w1.heap.size ∧ w1.heap.size ≤ rb1 ∧ rb1 < w2.heap.size ∧ w2.heap.size ≤ rb2 ∧ rb2 < w3.heap.size ∧ w3.heap.size ≤ rb3 ∧ rb3 < w4.heap.size) :=
    ⟨HW.out, R1.out, R2.out.1, R2.out.2, R3.out.1, R3.out.2, RD3.out.lt⟩
  have HS : Hid (w4.heap.size ≤ w4.heap.size) := Nat.le_refl _
  clear R1 R2 R3 hN HW
  go_wp2_with fail
  refine (RU_is RD1.out n1 HS1.out).mono ?_
  rintro e w5 ⟨rfl, hrd, hk⟩
  have D1v5 := hd hrd
  have D2v5 := hd (RD2'.out.keepO hk (by have := HN.out; omega) (by have := HN.out; omega))
  have D3v5 := hd (RD3.out.keepO hk (by have := HN.out; omega) (by have := HN.out; omega))
  have Xv5 := hd (HX.out.keepO hk (by have := HN.out; omega))
  have Sv5 := hd (Nat.le_trans HS.out hk.size)
  have Bv5 := hd (HB.out.trans (hk.below _ HB.out.size (fun i hi e => by have := HN.out; omega)))
  clear hrd hk RD1 RD2' RD3 HX HS HB
  go_wp2_with fail
  refine (HU.out _).mono ?_
  rintro e w6 ⟨q1, c1, rfl, hbs, hk⟩
  have T1v6 := hd (hbs.weaken (A' := fun b => w4.heap.size ≤ b) (fun b _ h => Nat.le_trans Sv5.out h))
  have D1v6 := hd (D1v5.out.keep hk)
  have D2v6 := hd (D2v5.out.keep hk)
  have D3v6 := hd (D3v5.out.keep hk)
  have Xv6 := hd (Xv5.out.keep hk)
  have Sv6 := hd (Nat.le_trans Sv5.out hk.size)
  have Bv6 := hd (below_below Bv5.out hk)
  clear hbs hk D1v5 D2v5 D3v5 Xv5 Sv5 Bv5
  go_wp2_with fail
  refine (RS_is D2v6.out n2 HS2.out).mono ?_
  rintro e w7 ⟨rfl, hrd, hk⟩
  have D1v7 := hd (D1v6.out.keepO hk (by have := HN.out; omega) (by have := HN.out; omega))
  have D2v7 := hd hrd
  have D3v7 := hd (D3v6.out.keepO hk (by have := HN.out; omega) (by have := HN.out; omega))
  have Xv7 := hd (Xv6.out.keepO hk (by have := HN.out; omega))
  have Sv7 := hd (Nat.le_trans Sv6.out hk.size)
  have Bv7 := hd (Bv6.out.trans (hk.below _ Bv6.out.size (fun i hi e => by have := HN.out; omega)))
  have T1v7 := hd (T1v6.out.keepO hk (fun b hb e => by have := HN.out; omega))
  clear hrd hk D1v6 D2v6 D3v6 Xv6 Sv6 Bv6 T1v6
  go_wp2_with fail
  refine (HSS.out _).mono ?_
  rintro e w8 ⟨q2, c2, rfl, hbs, hk⟩
  have T2v8 := hd (hbs.weaken (A' := fun b => w4.heap.size ≤ b) (fun b _ h => Nat.le_trans Sv7.out h))
  have D1v8 := hd (D1v7.out.keep hk)
  have D2v8 := hd (D2v7.out.keep hk)
  have D3v8 := hd (D3v7.out.keep hk)
  have Xv8 := hd (Xv7.out.keep hk)
  have Sv8 := hd (Nat.le_trans Sv7.out hk.size)
  have Bv8 := hd (below_below Bv7.out hk)
  have T1v8 := hd (T1v7.out.keepB hk)
  clear hbs hk D1v7 D2v7 D3v7 Xv7 Sv7 Bv7 T1v7
  go_wp2_with fail
  refine (RText_str D3v8.out 60000 HS3.out).mono ?_
  rintro e w9 ⟨rfl, hrd, hk⟩
  have D1v9 := hd (D1v8.out.keepO hk (by have := HN.out; omega) (by have := HN.out; omega))
  have D2v9 := hd (D2v8.out.keepO hk (by have := HN.out; omega) (by have := HN.out; omega))
  have D3v9 := hd hrd
  have Xv9 := hd (Xv8.out.keepO hk (by have := HN.out; omega))
  have Sv9 := hd (Nat.le_trans Sv8.out hk.size)
  have Bv9 := hd (Bv8.out.trans (hk.below _ Bv8.out.size (fun i hi e => by have := HN.out; omega)))
  have T1v9 := hd (T1v8.out.keepO hk (fun b hb e => by have := HN.out; omega))
  have T2v9 := hd (T2v8.out.keepO hk (fun b hb e => by have := HN.out; omega))
  clear hrd hk D1v8 D2v8 D3v8 Xv8 Sv8 Bv8 T1v8 T2v8
  go_wp2_with fail
  refine (HTT.out _).mono ?_
  rintro e w10 ⟨q3, c3, rfl, hbs, hk⟩
  have T3v10 := hd (hbs.weaken (A' := fun b => w4.heap.size ≤ b) (fun b _ h => Nat.le_trans Sv9.out h))
  have D1v10 := hd (D1v9.out.keep hk)
  have D2v10 := hd (D2v9.out.keep hk)
  have D3v10 := hd (D3v9.out.keep hk)
  have Xv10 := hd (Xv9.out.keep hk)
  have Sv10 := hd (Nat.le_trans Sv9.out hk.size)
  have Bv10 := hd (below_below Bv9.out hk)
  have T1v10 := hd (T1v9.out.keepB hk)
  have T2v10 := hd (T2v9.out.keepB hk)
  clear hbs hk D1v9 D2v9 D3v9 Xv9 Sv9 Bv9 T1v9 T2v9
  go_wp2_with fail
  refine (Err_any D1v10.out).mono ?_
  rintro e v1 ⟨rfl, rfl⟩
  go_wp2_with fail
  refine (Err_any D2v10.out).mono ?_
  rintro e v2 ⟨rfl, rfl⟩
  go_wp2_with fail
  refine (Left_is D2v10.out m2 HM2.out).mono ?_
  rintro e u2 ⟨rfl, rfl⟩
  go_wp2_with fail
  refine (prefix_is Xv10.out T2v10.out HP2.out HL2.out).mono ?_
  rintro e t2 ⟨rfl, rfl⟩
  go_wp2_with fail
  refine (Err_any D3v10.out).mono ?_
  rintro e v3 ⟨rfl, rfl⟩
  go_wp2
  go_ret
  exact ⟨rfl, Bv10.out⟩

set_option maxHeartbeats 4000000 in
theorem walkOEE (a : Option Addr) (len cap : Nat) (w : World) (l : List Int) (hx : Bx w.heap.size w (.slice a len cap) l) (hlen : l.length = len) (hb : len ≤ 140737488351232)
    (n1 n2 : Int) (bs l1 l2 l3 x1 x2 x3 : List Int) (e1 e2 e3 : Int) (k1 k2 k3 : Nat)
    (s1 : uStep 9007199254740991 l 0 = (n1, l1, 0)) (s2 : uStep 18014398509481982 l 0 = (n2, l2, e2)) (s3 : bStep (textR 60000 l) l 0 = (bs, l3, e3))
    (b1 : 0 ≤ n1) (b1' : n1 ≤ 9007199254740991) (b2 : 0 ≤ n2) (b2' : n2 ≤ 18014398509481982) (b3 : bs.length ≤ 60000) (b3' : Byt bs)
    (f1 : x1 = Num.enc n1) (f2 : x2 = Num.enc n2) (f3 : x3 = Num.enc bs.length ++ bs) (g1 : x1.length = k1) (g2 : x2.length = k2) (g3 : x3.length = k3) (p1 : 0 < x1.length) (p2 : 0 < x2.length) (p3 : 0 < x3.length)
    (hl1 : l = x1 ++ l1)
    (he2 : e2 ≠ 0)
    (he3 : e3 ≠ 0) :
    Calls Try.prog 6 #[.slice a len cap] w fun e w' => TrueEnd w e w' := by
  obtain ⟨m1, hm1⟩ : ∃ m, l1.length = m := ⟨_, rfl⟩
  have hsum1 : k1 + m1 = len := by have h := congrArg List.length hl1; rw [List.length_append] at h; omega
  have HL1 := hd hl1
  have HM1 := hd hm1
  have hq1 : ((k1 : Int) + (m1 : Int) == (len : Int)) = true := by rw [beq_iff_eq]; omega
  have hm1b : (m1 : Int) ≤ 140737488355328 := by omega
  clear hl1 hm1 hsum1
  have hn2 : (e2 != 0) = true := by rw [bne_iff_ne]; exact he2
  have HE2 := hd he2
  clear he2
  have hn3 : (e3 != 0) = true := by rw [bne_iff_ne]; exact he3
  have HE3 := hd he3
  clear he3
  have hk1 : (k1 : Int) ≤ 70000 := by
    have h1 := Num.enc_length n1
    have h2 := Num.sz_bd n1 b1
    have h3 : k1 = Num.sz n1 := by rw [← g1, f1, h1]
    omega
  have hk2 : (k2 : Int) ≤ 70000 := by
    have h1 := Num.enc_length n2
    have h2 := Num.sz_bd n2 b2
    have h3 : k2 = Num.sz n2 := by rw [← g2, f2, h1]
    omega
  have hk3 : (k3 : Int) ≤ 70000 := by
    have h1 := Num.enc_length bs.length
    have h2 := Num.sz_bd bs.length (by omega)
    have h3 : k3 = Num.sz bs.length + bs.length := by rw [← g3, f3, List.length_append, h1]
    omega
  have HP1 := hd p1
  have HP2 := hd p2
  have HP3 := hd p3
  have HBX := hd hx
  have HS1 := hd s1
  have HS2 := hd s2
  have HS3 := hd s3
  have HU : Hid (∀ w, Calls Try.prog 9 #[.int .i64 n1] w fun e w' => MadeK w x1 k1 e w') := by
    intro w; rw [f1]; exact (U_made n1 w b1 b1').mono (fun e w' h => madeK h k1 (by rw [← f1]; exact g1))
  have HSS : Hid (∀ w, Calls Try.prog 11 #[.int .i64 (unfoldI n2)] w fun e w' => MadeK w x2 k2 e w') := by
    intro w
    have hu := unfold_bd n2 b2 b2'
    have h := S_made (unfoldI n2) w hu.1 hu.2
    rw [fold_unfold n2 b2] at h
    rw [f2]; exact h.mono (fun e w' h => madeK h k2 (by rw [← f2]; exact g2))
  have HTT : Hid (∀ w, Calls Try.prog 13 #[.string (strOfNums bs)] w fun e w' => MadeK w x3 k3 e w') := by
    intro w
    rw [f3]; exact (Text_str bs b3' w (by omega)).mono (fun e w' h => madeK h k3 (by rw [← f3]; exact g3))
  clear hx s1 s2 s3 f1 f2 f3 g1 g2 g3 p1 p2 p3 hlen b3 b3' b1 b1' b2 b2'
  go_enter Try.func6, Try.ntmps6
  go_wp2_with fail
  refine (works_true _).mono ?_
  rintro e w1 ⟨rfl, hk⟩
  have HB1 := hd hk
  have HW1 := hd hk.size
  have HX1 := hd (HBX.out.keep hk)
  clear hk HBX
  go_wp2_with fail
  refine (New_bx HX1.out).mono ?_
  rintro e w2 ⟨rb1, rfl, hr1, hrd, hk⟩
  have R1 := hd hr1
  have RD1 := hd hrd
  have HX2 := hd (HX1.out.keep hk)
  have HB2 := hd (below_below HB1.out hk)
  clear hr1 hrd hk HX1 HB1
  go_wp2_with fail
  refine (New_bx HX2.out).mono ?_
  rintro e w3 ⟨rb2, rfl, hr2, hrd, hk⟩
  have R2 : Hid (rb1 < w2.heap.size ∧ w2.heap.size ≤ rb2) := ⟨RD1.out.lt, hr2⟩
  have RD1' := hd (RD1.out.keep hk)
  have RD2 := hd hrd
  have HX3 := hd (HX2.out.keep hk)
  have HB3 := hd (below_below HB2.out hk)
  clear hr2 hrd hk HX2 HB2 RD1
  go_wp2_with fail
  refine (New_bx HX3.out).mono ?_
  rintro e w4 ⟨rb3, rfl, hr3, hrd, hk⟩
  have R3 : Hid (rb2 < w3.heap.size ∧ w3.heap.size ≤ rb3) := ⟨RD2.out.lt, hr3⟩
  have RD1 := hd (RD1'.out.keep hk)
  have RD2' := hd (RD2.out.keep hk)
  have RD3 := hd hrd
  have HX := hd (HX3.out.keep hk)
  have HB := hd (below_below HB3.out hk)
  have HW : Hid (w.heap.size ≤ w1.heap.size) := HW1.out
  clear hr3 hrd hk HX3 HB3 RD1' RD2
  obtain ⟨N, hN⟩ : ∃ N, N = w.heap.size := ⟨_, rfl⟩
  have HN : Hid (w.heap.size ≤ w1.heap.size ∧ w1.heap.size ≤ rb1 ∧ rb1 < w2.heap.size ∧ w2.heap.size ≤ rb2 ∧ rb2 < w3.heap.size ∧ w3.heap.size ≤ rb3 ∧ rb3 < w4.heap.size) :=
    ⟨HW.out, R1.out, R2.out.1, R2.out.2, R3.out.1, R3.out.2, RD3.out.lt⟩
  have HS : Hid (w4.heap.size ≤ w4.heap.size) := Nat.le_refl _
  clear R1 R2 R3 hN HW
  go_wp2_with fail
  refine (RU_is RD1.out n1 HS1.out).mono ?_
  rintro e w5 ⟨rfl, hrd, hk⟩
  have D1v5 := hd hrd
  have D2v5 := hd (RD2'.out.keepO hk (by have := HN.out; omega) (by have := HN.out; omega))
  have D3v5 := hd (RD3.out.keepO hk (by have := HN.out; omega) (by have := HN.out; omega))
  have Xv5 := hd (HX.out.keepO hk (by have := HN.out; omega))
  have Sv5 := hd (Nat.le_trans HS.out hk.size)
  have Bv5 := hd (HB.out.trans (hk.below _ HB.out.size (fun i hi e => by have := HN.out; omega)))
  clear hrd hk RD1 RD2' RD3 HX HS HB
  go_wp2_with fail
  refine (HU.out _).mono ?_
  rintro e w6 ⟨q1, c1, rfl, hbs, hk⟩
  have T1v6 := hd (hbs.weaken (A' := fun b => w4.heap.size ≤ b) (fun b _ h => Nat.le_trans Sv5.out h))
  have D1v6 := hd (D1v5.out.keep hk)
  have D2v6 := hd (D2v5.out.keep hk)
  have D3v6 := hd (D3v5.out.keep hk)
  have Xv6 := hd (Xv5.out.keep hk)
  have Sv6 := hd (Nat.le_trans Sv5.out hk.size)
  have Bv6 := hd (below_below Bv5.out hk)
  clear hbs hk D1v5 D2v5 D3v5 Xv5 Sv5 Bv5
  go_wp2_with fail
  refine (RS_is D2v6.out n2 HS2.out).mono ?_
  rintro e w7 ⟨rfl, hrd, hk⟩
  have D1v7 := hd (D1v6.out.keepO hk (by have := HN.out; omega) (by have := HN.out; omega))
  have D2v7 := hd hrd
  have D3v7 := hd (D3v6.out.keepO hk (by have := HN.out; omega) (by have := HN.out; omega))
  have Xv7 := hd (Xv6.out.keepO hk (by have := HN.out; omega))
  have Sv7 := hd (Nat.le_trans Sv6.out hk.size)
  have Bv7 := hd (Bv6.out.trans (hk.below _ Bv6.out.size (fun i hi e => by have := HN.out; omega)))
  have T1v7 := hd (T1v6.out.keepO hk (fun b hb e => by have := HN.out; omega))
  clear hrd hk D1v6 D2v6 D3v6 Xv6 Sv6 Bv6 T1v6
  go_wp2_with fail
  refine (HSS.out _).mono ?_
  rintro e w8 ⟨q2, c2, rfl, hbs, hk⟩
  have T2v8 := hd (hbs.weaken (A' := fun b => w4.heap.size ≤ b) (fun b _ h => Nat.le_trans Sv7.out h))
  have D1v8 := hd (D1v7.out.keep hk)
  have D2v8 := hd (D2v7.out.keep hk)
  have D3v8 := hd (D3v7.out.keep hk)
  have Xv8 := hd (Xv7.out.keep hk)
  have Sv8 := hd (Nat.le_trans Sv7.out hk.size)
  have Bv8 := hd (below_below Bv7.out hk)
  have T1v8 := hd (T1v7.out.keepB hk)
  clear hbs hk D1v7 D2v7 D3v7 Xv7 Sv7 Bv7 T1v7
  go_wp2_with fail
  refine (RText_str D3v8.out 60000 HS3.out).mono ?_
  rintro e w9 ⟨rfl, hrd, hk⟩
  have D1v9 := hd (D1v8.out.keepO hk (by have := HN.out; omega) (by have := HN.out; omega))
  have D2v9 := hd (D2v8.out.keepO hk (by have := HN.out; omega) (by have := HN.out; omega))
  have D3v9 := hd hrd
  have Xv9 := hd (Xv8.out.keepO hk (by have := HN.out; omega))
  have Sv9 := hd (Nat.le_trans Sv8.out hk.size)
  have Bv9 := hd (Bv8.out.trans (hk.below _ Bv8.out.size (fun i hi e => by have := HN.out; omega)))
  have T1v9 := hd (T1v8.out.keepO hk (fun b hb e => by have := HN.out; omega))
  have T2v9 := hd (T2v8.out.keepO hk (fun b hb e => by have := HN.out; omega))
  clear hrd hk D1v8 D2v8 D3v8 Xv8 Sv8 Bv8 T1v8 T2v8
  go_wp2_with fail
  refine (HTT.out _).mono ?_
  rintro e w10 ⟨q3, c3, rfl, hbs, hk⟩
  have T3v10 := hd (hbs.weaken (A' := fun b => w4.heap.size ≤ b) (fun b _ h => Nat.le_trans Sv9.out h))
  have D1v10 := hd (D1v9.out.keep hk)
  have D2v10 := hd (D2v9.out.keep hk)
  have D3v10 := hd (D3v9.out.keep hk)
  have Xv10 := hd (Xv9.out.keep hk)
  have Sv10 := hd (Nat.le_trans Sv9.out hk.size)
  have Bv10 := hd (below_below Bv9.out hk)
  have T1v10 := hd (T1v9.out.keepB hk)
  have T2v10 := hd (T2v9.out.keepB hk)
  clear hbs hk D1v9 D2v9 D3v9 Xv9 Sv9 Bv9 T1v9 T2v9
  go_wp2_with fail
  refine (Err_any D1v10.out).mono ?_
  rintro e v1 ⟨rfl, rfl⟩
  go_wp2_with fail
  refine (Left_is D1v10.out m1 HM1.out).mono ?_
  rintro e u1 ⟨rfl, rfl⟩
  go_wp2_with fail
  refine (prefix_is Xv10.out T1v10.out HP1.out HL1.out).mono ?_
  rintro e t1 ⟨rfl, rfl⟩
  go_wp2_with fail
  refine (Err_any D2v10.out).mono ?_
  rintro e v2 ⟨rfl, rfl⟩
  go_wp2_with fail
  refine (Err_any D3v10.out).mono ?_
  rintro e v3 ⟨rfl, rfl⟩
  go_wp2
  go_ret
  exact ⟨rfl, Bv10.out⟩

set_option maxHeartbeats 4000000 in
theorem walkEEE (a : Option Addr) (len cap : Nat) (w : World) (l : List Int) (hx : Bx w.heap.size w (.slice a len cap) l) (hlen : l.length = len) (hb : len ≤ 140737488351232)
    (n1 n2 : Int) (bs l1 l2 l3 x1 x2 x3 : List Int) (e1 e2 e3 : Int) (k1 k2 k3 : Nat)
    (s1 : uStep 9007199254740991 l 0 = (n1, l1, e1)) (s2 : uStep 18014398509481982 l 0 = (n2, l2, e2)) (s3 : bStep (textR 60000 l) l 0 = (bs, l3, e3))
    (b1 : 0 ≤ n1) (b1' : n1 ≤ 9007199254740991) (b2 : 0 ≤ n2) (b2' : n2 ≤ 18014398509481982) (b3 : bs.length ≤ 60000) (b3' : Byt bs)
    (f1 : x1 = Num.enc n1) (f2 : x2 = Num.enc n2) (f3 : x3 = Num.enc bs.length ++ bs) (g1 : x1.length = k1) (g2 : x2.length = k2) (g3 : x3.length = k3) (p1 : 0 < x1.length) (p2 : 0 < x2.length) (p3 : 0 < x3.length)
    (he1 : e1 ≠ 0)
    (he2 : e2 ≠ 0)
    (he3 : e3 ≠ 0) :
    Calls Try.prog 6 #[.slice a len cap] w fun e w' => TrueEnd w e w' := by
  have hn1 : (e1 != 0) = true := by rw [bne_iff_ne]; exact he1
  have HE1 := hd he1
  clear he1
  have hn2 : (e2 != 0) = true := by rw [bne_iff_ne]; exact he2
  have HE2 := hd he2
  clear he2
  have hn3 : (e3 != 0) = true := by rw [bne_iff_ne]; exact he3
  have HE3 := hd he3
  clear he3
  have hk1 : (k1 : Int) ≤ 70000 := by
    have h1 := Num.enc_length n1
    have h2 := Num.sz_bd n1 b1
    have h3 : k1 = Num.sz n1 := by rw [← g1, f1, h1]
    omega
  have hk2 : (k2 : Int) ≤ 70000 := by
    have h1 := Num.enc_length n2
    have h2 := Num.sz_bd n2 b2
    have h3 : k2 = Num.sz n2 := by rw [← g2, f2, h1]
    omega
  have hk3 : (k3 : Int) ≤ 70000 := by
    have h1 := Num.enc_length bs.length
    have h2 := Num.sz_bd bs.length (by omega)
    have h3 : k3 = Num.sz bs.length + bs.length := by rw [← g3, f3, List.length_append, h1]
    omega
  have HP1 := hd p1
  have HP2 := hd p2
  have HP3 := hd p3
  have HBX := hd hx
  have HS1 := hd s1
  have HS2 := hd s2
  have HS3 := hd s3
  have HU : Hid (∀ w, Calls Try.prog 9 #[.int .i64 n1] w fun e w' => MadeK w x1 k1 e w') := by
    intro w; rw [f1]; exact (U_made n1 w b1 b1').mono (fun e w' h => madeK h k1 (by rw [← f1]; exact g1))
  have HSS : Hid (∀ w, Calls Try.prog 11 #[.int .i64 (unfoldI n2)] w fun e w' => MadeK w x2 k2 e w') := by
    intro w
    have hu := unfold_bd n2 b2 b2'
    have h := S_made (unfoldI n2) w hu.1 hu.2
    rw [fold_unfold n2 b2] at h
    rw [f2]; exact h.mono (fun e w' h => madeK h k2 (by rw [← f2]; exact g2))
  have HTT : Hid (∀ w, Calls Try.prog 13 #[.string (strOfNums bs)] w fun e w' => MadeK w x3 k3 e w') := by
    intro w
    rw [f3]; exact (Text_str bs b3' w (by omega)).mono (fun e w' h => madeK h k3 (by rw [← f3]; exact g3))
  clear hx s1 s2 s3 f1 f2 f3 g1 g2 g3 p1 p2 p3 hlen b3 b3' b1 b1' b2 b2'
  go_enter Try.func6, Try.ntmps6
  go_wp2_with fail
  refine (works_true _).mono ?_
  rintro e w1 ⟨rfl, hk⟩
  have HB1 := hd hk
  have HW1 := hd hk.size
  have HX1 := hd (HBX.out.keep hk)
  clear hk HBX
  go_wp2_with fail
  refine (New_bx HX1.out).mono ?_
  rintro e w2 ⟨rb1, rfl, hr1, hrd, hk⟩
  have R1 := hd hr1
  have RD1 := hd hrd
  have HX2 := hd (HX1.out.keep hk)
  have HB2 := hd (below_below HB1.out hk)
  clear hr1 hrd hk HX1 HB1
  go_wp2_with fail
  refine (New_bx HX2.out).mono ?_
  rintro e w3 ⟨rb2, rfl, hr2, hrd, hk⟩
  have R2 : Hid (rb1 < w2.heap.size ∧ w2.heap.size ≤ rb2) := ⟨RD1.out.lt, hr2⟩
  have RD1' := hd (RD1.out.keep hk)
  have RD2 := hd hrd
  have HX3 := hd (HX2.out.keep hk)
  have HB3 := hd (below_below HB2.out hk)
  clear hr2 hrd hk HX2 HB2 RD1
  go_wp2_with fail
  refine (New_bx HX3.out).mono ?_
  rintro e w4 ⟨rb3, rfl, hr3, hrd, hk⟩
  have R3 : Hid (rb2 < w3.heap.size ∧ w3.heap.size ≤ rb3) := ⟨RD2.out.lt, hr3⟩
  have RD1 := hd (RD1'.out.keep hk)
  have RD2' := hd (RD2.out.keep hk)
  have RD3 := hd hrd
  have HX := hd (HX3.out.keep hk)
  have HB := hd (below_below HB3.out hk)
  have HW : Hid (w.heap.size ≤ w1.heap.size) := HW1.out
  clear hr3 hrd hk HX3 HB3 RD1' RD2
  obtain ⟨N, hN⟩ : ∃ N, N = w.heap.size := ⟨_, rfl⟩
  have HN : Hid (w.heap.size ≤ w1.heap.size ∧ w1.heap.size ≤ rb1 ∧ rb1 < w2.heap.size ∧ w2.heap.size ≤ rb2 ∧ rb2 < w3.heap.size ∧ w3.heap.size ≤ rb3 ∧ rb3 < w4.heap.size) :=
    ⟨HW.out, R1.out, R2.out.1, R2.out.2, R3.out.1, R3.out.2, RD3.out.lt⟩
  have HS : Hid (w4.heap.size ≤ w4.heap.size) := Nat.le_refl _
  clear R1 R2 R3 hN HW
  go_wp2_with fail
  refine (RU_is RD1.out n1 HS1.out).mono ?_
  rintro e w5 ⟨rfl, hrd, hk⟩
  have D1v5 := hd hrd
  have D2v5 := hd (RD2'.out.keepO hk (by have := HN.out; omega) (by have := HN.out; omega))
  have D3v5 := hd (RD3.out.keepO hk (by have := HN.out; omega) (by have := HN.out; omega))
  have Xv5 := hd (HX.out.keepO hk (by have := HN.out; omega))
  have Sv5 := hd (Nat.le_trans HS.out hk.size)
  have Bv5 := hd (HB.out.trans (hk.below _ HB.out.size (fun i hi e => by have := HN.out; omega)))
  clear hrd hk RD1 RD2' RD3 HX HS HB
  go_wp2_with fail
  refine (HU.out _).mono ?_
  rintro e w6 ⟨q1, c1, rfl, hbs, hk⟩
  have T1v6 := hd (hbs.weaken (A' := fun b => w4.heap.size ≤ b) (fun b _ h => Nat.le_trans Sv5.out h))
  have D1v6 := hd (D1v5.out.keep hk)
  have D2v6 := hd (D2v5.out.keep hk)
  have D3v6 := hd (D3v5.out.keep hk)
  have Xv6 := hd (Xv5.out.keep hk)
  have Sv6 := hd (Nat.le_trans Sv5.out hk.size)
  have Bv6 := hd (below_below Bv5.out hk)
  clear hbs hk D1v5 D2v5 D3v5 Xv5 Sv5 Bv5
  go_wp2_with fail
  refine (RS_is D2v6.out n2 HS2.out).mono ?_
  rintro e w7 ⟨rfl, hrd, hk⟩
  have D1v7 := hd (D1v6.out.keepO hk (by have := HN.out; omega) (by have := HN.out; omega))
  have D2v7 := hd hrd
  have D3v7 := hd (D3v6.out.keepO hk (by have := HN.out; omega) (by have := HN.out; omega))
  have Xv7 := hd (Xv6.out.keepO hk (by have := HN.out; omega))
  have Sv7 := hd (Nat.le_trans Sv6.out hk.size)
  have Bv7 := hd (Bv6.out.trans (hk.below _ Bv6.out.size (fun i hi e => by have := HN.out; omega)))
  have T1v7 := hd (T1v6.out.keepO hk (fun b hb e => by have := HN.out; omega))
  clear hrd hk D1v6 D2v6 D3v6 Xv6 Sv6 Bv6 T1v6
  go_wp2_with fail
  refine (HSS.out _).mono ?_
  rintro e w8 ⟨q2, c2, rfl, hbs, hk⟩
  have T2v8 := hd (hbs.weaken (A' := fun b => w4.heap.size ≤ b) (fun b _ h => Nat.le_trans Sv7.out h))
  have D1v8 := hd (D1v7.out.keep hk)
  have D2v8 := hd (D2v7.out.keep hk)
  have D3v8 := hd (D3v7.out.keep hk)
  have Xv8 := hd (Xv7.out.keep hk)
  have Sv8 := hd (Nat.le_trans Sv7.out hk.size)
  have Bv8 := hd (below_below Bv7.out hk)
  have T1v8 := hd (T1v7.out.keepB hk)
  clear hbs hk D1v7 D2v7 D3v7 Xv7 Sv7 Bv7 T1v7
  go_wp2_with fail
  refine (RText_str D3v8.out 60000 HS3.out).mono ?_
  rintro e w9 ⟨rfl, hrd, hk⟩
  have D1v9 := hd (D1v8.out.keepO hk (by have := HN.out; omega) (by have := HN.out; omega))
  have D2v9 := hd (D2v8.out.keepO hk (by have := HN.out; omega) (by have := HN.out; omega))
  have D3v9 := hd hrd
  have Xv9 := hd (Xv8.out.keepO hk (by have := HN.out; omega))
  have Sv9 := hd (Nat.le_trans Sv8.out hk.size)
  have Bv9 := hd (Bv8.out.trans (hk.below _ Bv8.out.size (fun i hi e => by have := HN.out; omega)))
  have T1v9 := hd (T1v8.out.keepO hk (fun b hb e => by have := HN.out; omega))
  have T2v9 := hd (T2v8.out.keepO hk (fun b hb e => by have := HN.out; omega))
  clear hrd hk D1v8 D2v8 D3v8 Xv8 Sv8 Bv8 T1v8 T2v8
  go_wp2_with fail
  refine (HTT.out _).mono ?_
  rintro e w10 ⟨q3, c3, rfl, hbs, hk⟩
  have T3v10 := hd (hbs.weaken (A' := fun b => w4.heap.size ≤ b) (fun b _ h => Nat.le_trans Sv9.out h))
  have D1v10 := hd (D1v9.out.keep hk)
  have D2v10 := hd (D2v9.out.keep hk)
  have D3v10 := hd (D3v9.out.keep hk)
  have Xv10 := hd (Xv9.out.keep hk)
  have Sv10 := hd (Nat.le_trans Sv9.out hk.size)
  have Bv10 := hd (below_below Bv9.out hk)
  have T1v10 := hd (T1v9.out.keepB hk)
  have T2v10 := hd (T2v9.out.keepB hk)
  clear hbs hk D1v9 D2v9 D3v9 Xv9 Sv9 Bv9 T1v9 T2v9
  go_wp2_with fail
  refine (Err_any D1v10.out).mono ?_
  rintro e v1 ⟨rfl, rfl⟩
  go_wp2_with fail
  refine (Err_any D2v10.out).mono ?_
  rintro e v2 ⟨rfl, rfl⟩
  go_wp2_with fail
  refine (Err_any D3v10.out).mono ?_
  rintro e v3 ⟨rfl, rfl⟩
  go_wp2
  go_ret
  exact ⟨rfl, Bv10.out⟩

theorem walk (a : Option Addr) (len cap : Nat) (zs : List Int) (W : World) (h : IsRow .u8 W a len cap zs) :
    Calls Try.prog 6 #[.slice a len cap] W fun e w' => e = .returned (.bool true) ∧ Below W.heap.size W w' := by
  obtain ⟨hx, hlen, hb, hbyt⟩ := h.bx
  generalize zs.take len = l at hx hlen hbyt
  obtain ⟨n1, l1, e1, s1⟩ : ∃ n l' e, uStep 9007199254740991 l 0 = (n, l', e) := ⟨_, _, _, rfl⟩
  obtain ⟨n2, l2, e2, s2⟩ : ∃ n l' e, uStep 18014398509481982 l 0 = (n, l', e) := ⟨_, _, _, rfl⟩
  obtain ⟨bs, l3, e3, s3⟩ : ∃ n l' e, bStep (textR 60000 l) l 0 = (n, l', e) := ⟨_, _, _, rfl⟩
  have d1 := uStep_bd 9007199254740991 l 0 (by omega) hbyt
  have d2 := uStep_bd 18014398509481982 l 0 (by omega) hbyt
  rw [s1] at d1
  rw [s2] at d2
  have q1 := uStep_again _ l hbyt n1 l1 e1 s1
  have q2 := uStep_again _ l hbyt n2 l2 e2 s2
  have q3 := bStep_again 60000 l hbyt (by omega) (by omega) bs l3 e3 s3
  have hbs : Byt bs := bStep_byt 60000 l hbyt bs l3 e3 s3
  have p1 : 0 < (Num.enc n1).length := by have := Num.enc_length n1; have := Num.sz_bd n1 d1.1; omega
  have p2 : 0 < (Num.enc n2).length := by have := Num.enc_length n2; have := Num.sz_bd n2 d2.1; omega
  have p3 : 0 < (Num.enc bs.length ++ bs).length := by have := Num.enc_length bs.length; have := Num.sz_bd bs.length (by omega); rw [List.length_append]; omega
  rcases q1 with q1 | ⟨rfl, q1⟩ <;> rcases q2 with q2 | ⟨rfl, q2⟩ <;> rcases q3 with ⟨q4, q3 | ⟨rfl, q3⟩⟩
  · exact walkEEE a len cap W l hx hlen hb n1 n2 bs l1 l2 l3 _ _ _ e1 e2 e3 _ _ _ s1 s2 s3 d1.1 d1.2 d2.1 d2.2 q4 hbs rfl rfl rfl rfl rfl rfl p1 p2 p3 q1 q2 q3
  · exact walkEEO a len cap W l hx hlen hb n1 n2 bs l1 l2 l3 _ _ _ e1 e2 0 _ _ _ s1 s2 s3 d1.1 d1.2 d2.1 d2.2 q4 hbs rfl rfl rfl rfl rfl rfl p1 p2 p3 q1 q2 q3
  · exact walkEOE a len cap W l hx hlen hb n1 n2 bs l1 l2 l3 _ _ _ e1 0 e3 _ _ _ s1 s2 s3 d1.1 d1.2 d2.1 d2.2 q4 hbs rfl rfl rfl rfl rfl rfl p1 p2 p3 q1 q2 q3
  · exact walkEOO a len cap W l hx hlen hb n1 n2 bs l1 l2 l3 _ _ _ e1 0 0 _ _ _ s1 s2 s3 d1.1 d1.2 d2.1 d2.2 q4 hbs rfl rfl rfl rfl rfl rfl p1 p2 p3 q1 q2 q3
  · exact walkOEE a len cap W l hx hlen hb n1 n2 bs l1 l2 l3 _ _ _ 0 e2 e3 _ _ _ s1 s2 s3 d1.1 d1.2 d2.1 d2.2 q4 hbs rfl rfl rfl rfl rfl rfl p1 p2 p3 q1 q2 q3
  · exact walkOEO a len cap W l hx hlen hb n1 n2 bs l1 l2 l3 _ _ _ 0 e2 0 _ _ _ s1 s2 s3 d1.1 d1.2 d2.1 d2.2 q4 hbs rfl rfl rfl rfl rfl rfl p1 p2 p3 q1 q2 q3
  · exact walkOOE a len cap W l hx hlen hb n1 n2 bs l1 l2 l3 _ _ _ 0 0 e3 _ _ _ s1 s2 s3 d1.1 d1.2 d2.1 d2.2 q4 hbs rfl rfl rfl rfl rfl rfl p1 p2 p3 q1 q2 q3
  · exact walkOOO a len cap W l hx hlen hb n1 n2 bs l1 l2 l3 _ _ _ 0 0 0 _ _ _ s1 s2 s3 d1.1 d1.2 d2.1 d2.2 q4 hbs rfl rfl rfl rfl rfl rfl p1 p2 p3 q1 q2 q3

theorem own : ownKnob Try.prog.godebug = none := by kernel_rfl
theorem laidOut : laidOutB Try.prog = true := by kernel_rfl
theorem bytes5 : Try.prog.bytesOf 5 = 1 := by kernel_rfl

set_option maxRecDepth 100000 in
theorem lifted (os : Os) (started : os.Started) (H : Type) (enc : TypeId × Value → H) :
    ReturnsInHanded {} Try.checked os 6 .any (Rows.digitsAgainSpec.pre6 enc Try.prog Try.f6 Rows.digitsAgainRow.domain false) (Rows.digitsAgainSpec.post enc Try.prog Try.f6 false true false false) := by
  refine returnsInHanded_of_change_sized (C := Try.checked) own started (by kernel_rfl) Try.func6
    (ChangeSpec.witness6 (enc := enc) (C := Try.checked) false ⟨#[], #[.slice none 0 0], []⟩ 8 (by kernel_rfl) (by kernel_rfl) (by kernel_rfl) (by kernel_rfl)) ?_
  intro W base args ds gs before hval0 hW hcnd hsz0 _
  have hsz : (DataW.weightsEach Try.prog (Try.f6.params.toList ++ Rows.digitsAgainSpec.plain.varTypes Try.prog) (ds ++ gs)).all (· ≤ reachBytes) = true := hsz0
  have hval : ∀ (j : Nat) t v, Try.f6.params[j]? = some t → args[j]? = some v → Value.okWide Try.prog W .any base t v := hval0
  have hW' := hW
  obtain ⟨p, q, hA0, hV, rfl, hfz, hnd⟩ := hW
  have hA : DataW.TrodAll enc Try.prog W 0 (fun _ => true) true Try.f6.params.toList args.toList ds p := hA0
  rw [Try.params6] at hA hval hsz
  obtain ⟨v0, vs0, d0, ds0, p0, q0, hargs, rfl, rfl, h0, r0⟩ := trodAll_cons hA
  obtain ⟨rfl, rfl, rfl⟩ := trodAll_nil r0
  obtain rfl : args = #[v0] := by cases args; simp_all
  obtain ⟨rfl, rfl⟩ := trodVars_none hV
  obtain ⟨a0, len0, cap0, rfl⟩ := okWide_slice Try.underlying22 (hval 0 22 v0 rfl rfl)
  have k0 := h0
  have lt0 : ∀ x ∈ p0, x.block < W.heap.size := by obtain ⟨m, hm⟩ := k0; exact DataW.trod_lt m _ _ _ hm
  obtain ⟨z0, w0⟩ : ∃ zs, IsRow .u8 W a0 len0 cap0 zs := by
    obtain ⟨fuel, hf⟩ := h0
    rcases open_ints Try.underlying22 Try.underlying5 (by kernel_rfl) hf with ⟨hcs, _⟩ | ⟨x, l, c, zs, hcs, _, hl, hm, hz, hdx, hcell, hwz⟩
    · simp [Value.cells] at hcs
      obtain ⟨rfl, rfl, rfl⟩ := hcs
      exact ⟨[], .inl ⟨rfl, rfl, rfl, rfl⟩⟩
    · simp [Value.cells] at hcs
      obtain ⟨rfl, rfl, rfl⟩ := hcs
      have hzl : zs.length = cap0 := by simpa using hz
      have hdd : d0 = .slice (lits .u8 (zs.take len0)) (lits .u8 (zs.drop len0)) := congrArg Prod.fst hdx
      have hw := sized_slice hsz (j := 0) (t := 22) (e := 5) rfl (by rw [hdd]; rfl) Try.underlying22
      rw [bytes5] at hw
      simp only [lits, List.length_map, List.length_take, List.length_drop, reachBytes] at hw
      exact ⟨zs, .inr ⟨_, rfl, hl, by omega, hzl, hcell, hwz⟩⟩
  clear hA0 hval0
  refine (walk a0 len0 cap0 z0 W w0).mono fun e W' ⟨he, bel⟩ => ?_
  subst he
  exact ⟨_, rfl, _, _, _, [], _, [], hW', trodAll_mk1 (shut_bool Try.underlying4 _), (trodAll_cons_mk (Below.trod laidOut (by kernel_rfl) (of_decide_eq_true (by kernel_rfl)) k0 bel lt0) trodAll_mk0), rfl, bel.frame _, fun h => by cases h⟩

theorem over : Rows.digitsAgainRow.holds Try.pinned (OpenSpec.ofChange Rows.digitsAgainSpec) :=
  OpenClaim.holds_of_wide 6 Try.f6 rfl rfl rfl rfl rfl rfl rfl ⟨rfl, rfl, rfl, rfl, rfl⟩ rfl rfl rfl rfl rfl (by kernel_rfl) Try.func6 (by kernel_rfl)
    (of_decide_eq_true (by kernel_rfl)) (by unfold Func.isWrapper; first | (rw [if_pos (by decide +kernel)]; kernel_rfl) | (rw [if_neg (by decide +kernel)]; exact ⟨rfl, rfl⟩))
    (fun os started H enc _ => lifted os started H enc)

end Go.Proofs.Ytdjpdllgifdhaaa.digitsAgain
namespace Go.Proofs.Ytdjpdllgifdhaaa

/-- The statement. -/
theorem digitsAgain_proved : Rows.DigitsAgainSaid := digitsAgain.over
#print axioms digitsAgain_proved
end Go.Proofs.Ytdjpdllgifdhaaa
