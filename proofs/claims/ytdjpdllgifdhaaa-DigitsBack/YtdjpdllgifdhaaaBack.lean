/- DigitsBack: for every number, text and bytes behind them the law answers true: what was written, one behind the other, is read as it was, and what is left is what stands behind. -/
import Derived.Test.YtdjpdllgifdhaaaJn
import Derived.Test.YtdjpdllgifdhaaaRows
import Derived.ProofKit
import Derived.OpenShut
import Derived.ShutString
import Derived.ChangeOld
import Derived.SizedLaws
namespace Go.Proofs.Ytdjpdllgifdhaaa.digitsBack
open Go.ChangeShapes Go.WideShapes Go.ChangeAt Go.RowKit
open Go.ChangeMaps (open_string shut_string)
set_option linter.unusedVariables false

theorem str_bytes (t : ByteArray) : strOfNums (bytesOf t) = t := by
  apply ByteArray.ext
  apply Array.toList_inj.1
  rw [strOfNums_data]
  unfold bytesOf
  rw [List.map_map]
  have h : ∀ x ∈ t.data.toList, ((fun n : Int => UInt8.ofNat n.toNat) ∘ fun b : UInt8 => (b.toNat : Int)) x = x := by
    intro x _
    simp
  rw [List.map_congr_left h, List.map_id'']
  intro x; rfl

theorem text_back (t : ByteArray) (r : List Int) (ht : t.size ≤ 65535) : bStep (textR t.size ((Num.enc t.size ++ bytesOf t) ++ r)) ((Num.enc t.size ++ bytesOf t) ++ r) 0 = (bytesOf t, r, 0) := by
  have hn : Num.num 9007199254740991 ((Num.enc t.size ++ bytesOf t) ++ r) = ((t.size : Int), 0, Num.sz t.size) := by
    rw [List.append_assoc]; exact Num.num_enc _ _ _ (by omega) (by omega) (by omega)
  have hdrop : ((Num.enc t.size ++ bytesOf t) ++ r).drop (Num.sz t.size) = bytesOf t ++ r := by
    rw [List.append_assoc, ← Num.enc_length, List.drop_left]
  have hl := bytesOf_length t
  have hr : rawR t.size (bytesOf t ++ r) = (0, bytesOf t, r) := by
    unfold rawR
    rw [if_neg (by omega), if_neg (by rw [List.length_append]; omega), Int.toNat_natCast, ← hl, List.take_left, List.drop_left]
  have htx : textR t.size ((Num.enc t.size ++ bytesOf t) ++ r) = (0, bytesOf t, r) := by
    unfold textR
    rw [hn]
    simp only [ne_eq, not_true_eq_false, if_false]
    rw [if_neg (by omega), hdrop, hr]
  unfold bStep
  rw [if_neg (by omega), htx]
  simp

theorem raw_back (l : List Int) (L : Nat) (h : l.length = L) : bStep (rawR (L : Int) l) l 0 = (l, [], 0) := by
  subst h
  unfold bStep rawR
  have h1 : ¬ ((l.length : Int) < 0) := by omega
  have h2 : ¬ ((l.length : Int) < (l.length : Int)) := by omega
  simp [h1]

/-- What the four rows, one behind the other, tell. -/
theorem RRaw_is {RB : Nat} {w : World} {rb : Nat} {l bs l' : List Int} {e0 e1 : Int} (h : Rd RB w rb l e0) (n : Int) (k : Nat) (hs : bStep (rawR n l) l e0 = (bs, l', e1)) (hk : bs.length = k) :
    Calls Try.prog 25 #[.pointer (some ⟨rb, 0, none⟩), .int .i64 n] w fun e w' => ∃ a cap, e = .returned (.slice a k cap) ∧ Bs (fun b => w.heap.size ≤ b) w' (.slice a k cap) bs ∧ Rd RB w' rb l' e1 ∧ Kp (fun b => b = rb) w w' := by
  refine (RRaw_any h n).mono ?_
  rw [hs]
  rintro e w' ⟨a, cap, rfl, hb, hf, hr, hkp⟩
  subst hk
  exact ⟨a, cap, rfl, hb, hr, hkp⟩

theorem Left_is {RB : Nat} {w : World} {rb : Nat} {l : List Int} (h : Rd RB w rb l 0) (k : Nat) (hk : l.length = k) :
    Calls Try.prog 32 #[.pointer (some ⟨rb, 0, none⟩)] w fun e w' => e = .returned (.int .i64 k) ∧ w' = w := by
  subst hk; exact Left_ok h

/-- Bytes that were made, so many. -/
def MadeK (w : World) (l : List Int) (k : Nat) (e : Ending) (w' : World) : Prop :=
  ∃ a cap, e = .returned (.tuple #[.slice a k cap, .int .i64 0]) ∧ Bs (fun b => w.heap.size ≤ b) w' (.slice a k cap) l ∧ Below w.heap.size w w'

theorem madeK {w w' : World} {l : List Int} {e : Ending} (h : MadeEnd w l e w') (k : Nat) (hk : l.length = k) : MadeK w l k e w' := by
  subst hk; exact h

theorem eq_true {N : Nat} {A : Nat → Prop} {w : World} {va vb : Value} {l : List Int} (ha : Bs A w va l) (hb : Bx N w vb l) :
    Calls Try.prog 15 #[va, vb] w fun e w' => e = .returned (.bool true) ∧ ∃ m, w' = w.drewN m := by
  refine (eq_bx ha hb).mono ?_
  rintro e w' ⟨rfl, m, rfl⟩
  exact ⟨by rw [decide_eq_true rfl], m, rfl⟩

theorem bx_of {A : Nat → Prop} {w : World} {v : Value} {l : List Int} (h : Bs A w v l) : Bx w.heap.size w v l := Or.inl (h.weaken (fun b hb _ => hb))

theorem bx_mono {N M : Nat} {w : World} {v : Value} {l : List Int} (h : Bx N w v l) (hm : N ≤ M) : Bx M w v l := by
  rcases h with h | h
  · exact Or.inl (h.weaken (fun b _ hb => by omega))
  · exact Or.inr h

theorem join_built {N c1 c2 c3 c4 k1 k2 k3 k4 : Nat} {a1 a2 a3 a4 : Option Addr} {A1 A2 A3 : Nat → Prop} {w : World} {l1 l2 l3 l4 : List Int}
    (hN : N ≤ w.heap.size) (x1 : Bs A1 w (.slice a1 k1 c1) l1) (x2 : Bs A2 w (.slice a2 k2 c2) l2) (x3 : Bs A3 w (.slice a3 k3 c3) l3) (x4 : Bx N w (.slice a4 k4 c4) l4) (y4 : Byt l4)
    (g1 : l1.length = k1) (g2 : l2.length = k2) (g3 : l3.length = k3) (g4 : l4.length = k4) (p1 : 0 < k1) (p2 : 0 < k2) (p3 : 0 < k3) (hb : k1 + k2 + k3 + k4 ≤ 140737488355328) :
    Calls Try.prog 34 #[.slice (some ⟨w.heap.size, 0, none⟩) 4 4, .slice none 0 0] (w.alloc (.cells #[.slice a1 k1 c1, .slice a2 k2 c2, .slice a3 k3 c3, .slice a4 k4 c4] 22)) fun e w' => ∃ a c, e = .returned (.slice a (k1 + k2 + k3 + k4) c) ∧
      Bs (fun b => w.heap.size ≤ b) w' (.slice a (k1 + k2 + k3 + k4) c) (l1 ++ l2 ++ l3 ++ l4) ∧ Below w.heap.size w w' := by
  have hal : Below w.heap.size w (w.alloc (.cells #[.slice a1 k1 c1, .slice a2 k2 c2, .slice a3 k3 c3, .slice a4 k4 c4] 22)) := (Below.refl _ _).alloc (Nat.le_refl _) _
  have hc := fun i => World.cell?_alloc_at (w := w) #[Value.slice a1 k1 c1, .slice a2 k2 c2, .slice a3 k3 c3, .slice a4 k4 c4] 22 w.heap.size i rfl
  refine (join_any (N := w.heap.size) (hc 0) (hc 1) (hc 2) (hc 3) (by simp) ((bx_of x1).keep hal) ((bx_of x2).keep hal) ((bx_of x3).keep hal) ((bx_mono x4 hN).keep hal) x1.1 x2.1 x3.1 y4 g1 g2 g3 g4 p1 p2 p3 hb).mono ?_
  rintro e w' ⟨a, c, rfl, h1, h2⟩
  refine ⟨a, c, rfl, h1.weaken (fun b _ hb => ?_), below_below hal h2⟩
  simp at hb
  omega

theorem RS_of {RB : Nat} {w : World} {rb : Nat} {l r : List Int} (h : Rd RB w rb l 0) (m : Int) (hs : uStep 18014398509481982 l 0 = (foldI m, r, 0)) :
    Calls Try.prog 21 #[.pointer (some ⟨rb, 0, none⟩)] w fun e w' => e = .returned (.int .i64 m) ∧ Rd RB w' rb r 0 ∧ Kp (fun b => b = rb) w w' := by
  have h1 := RS_is h (foldI m) hs
  rw [unfold_fold] at h1
  exact h1

set_option maxRecDepth 100000 in
set_option maxHeartbeats 4000000 in
theorem walkPS (n k : Int) (s t : ByteArray) (a : Option Addr) (len cap : Nat) (w : World) (l : List Int) (n0 : -9223372036854775808 ≤ n) (n1 : n ≤ 9223372036854775807) (hk : n % 9007199254740992 = k) (hn : 0 ≤ n) (htl : s.size ≤ 1000)
    (hx : Bx w.heap.size w (.slice a len cap) l) (hlen : l.length = len) (hb : len ≤ 140737488351232) (hbyt : Byt l) (k1 k2 k3 : Nat)
    (g1 : (Num.enc k).length = k1) (g2 : (Num.enc (foldI k)).length = k2) (g3 : (Num.enc s.size ++ bytesOf s).length = k3) (p1 : 0 < k1) (p2 : 0 < k2) (p3 : 0 < k3) (z1 : k1 ≤ 8) (z2 : k2 ≤ 8) (z3 : k3 ≤ 1008) :
    Calls Try.prog 5 #[.int .i64 n, .string s, .slice a len cap] w fun e w' => TrueEnd w e w' := by
  have HK := hd hk
  have hk0 : 0 ≤ k := by omega
  have hk1 : k ≤ 9007199254740991 := by omega
  have HX := hd hx
  have HL := hd hlen
  have HY := hd hbyt
  have htl' : (s.size : Int) ≤ 1000 := by omega
  have HSB := hd (foldI_bd k (by omega) (by omega))
  have HU : Hid (∀ w, Calls Try.prog 9 #[.int .i64 k] w fun e w' => MadeK w (Num.enc k) k1 e w') := fun w => (U_made k w hk0 hk1).mono (fun e w' h => madeK h k1 g1)
  have HS : Hid (∀ w, Calls Try.prog 11 #[.int .i64 k] w fun e w' => MadeK w (Num.enc (foldI k)) k2 e w') := fun w => (S_made k w (by omega) (by omega)).mono (fun e w' h => madeK h k2 g2)
  have HTX : Hid (∀ w, Calls Try.prog 13 #[.string s] w fun e w' => MadeK w (Num.enc s.size ++ bytesOf s) k3 e w') := fun w => (Text_ok s w (by omega)).mono (fun e w' h => madeK h k3 g3)
  have G : Hid ((Num.enc k).length = k1 ∧ (Num.enc (foldI k)).length = k2 ∧ (Num.enc s.size ++ bytesOf s).length = k3) := ⟨g1, g2, g3⟩
  have YY : Hid (Byt (Num.enc k) ∧ Byt (Num.enc (foldI k)) ∧ Byt (Num.enc s.size ++ bytesOf s)) := ⟨enc_byt k hk0 (by omega), enc_byt _ HSB.out.1 (by have := HSB.out; omega), (enc_byt s.size (by omega) (by omega)).append (bytesOf_byt s)⟩
  have htn : decide ((1000 : Int) < (s.size : Int)) = false := by rw [decide_eq_false_iff_not]; omega
  have S1 : Hid (uStep 9007199254740991 (Num.enc k ++ Num.enc (foldI k) ++ (Num.enc s.size ++ bytesOf s) ++ l) 0 = (k, Num.enc (foldI k) ++ ((Num.enc s.size ++ bytesOf s) ++ l), 0)) := by
    show _ = _
    rw [List.append_assoc (Num.enc k ++ Num.enc (foldI k)), List.append_assoc (Num.enc k)]
    exact uStep_ok _ k _ hk0 (by omega) hk1
  have S2 : Hid (uStep 18014398509481982 (Num.enc (foldI k) ++ ((Num.enc s.size ++ bytesOf s) ++ l)) 0 = (foldI k, (Num.enc s.size ++ bytesOf s) ++ l, 0)) := uStep_ok _ _ _ HSB.out.1 (by have := HSB.out; omega) HSB.out.2
  have S3 := hd (text_back s l (by omega))
  clear hk hx hlen hbyt g1 g2 g3
  go_enter Try.func5, Try.ntmps5
  go_wp2_with fail
  refine (works_true _).mono ?_
  rintro e w1 ⟨rfl, hbl⟩
  have B1 := hd hbl
  have X1 := hd (HX.out.keep hbl)
  clear hbl HX
  go_wp2_with fail
  refine (bring_any _ _ _ n0 n1 (by omega) (by omega)).mono ?_
  rintro e w2 ⟨rfl, rfl⟩
  rw [HK.out]
  go_wp2_with fail
  refine (HU.out _).mono ?_
  rintro e w3 ⟨q1, c1, rfl, hbs, hbl⟩
  have B3 := hd (below_below B1.out hbl)
  have X3 := hd (X1.out.keep hbl)
  have P1 := hd hbs
  clear hbs hbl B1 X1
  go_wp2_with fail
  refine (HS.out _).mono ?_
  rintro e w4 ⟨q2, c2, rfl, hbs, hbl⟩
  have B4 := hd (below_below B3.out hbl)
  have X4 := hd (X3.out.keep hbl)
  have P14 := hd (P1.out.keepB hbl)
  have P2 := hd hbs
  clear hbs hbl B3 X3 P1
  go_wp2_with fail
  refine (HTX.out _).mono ?_
  rintro e w5 ⟨q3, c3, rfl, hbs, hbl⟩
  have B5 := hd (below_below B4.out hbl)
  have X5 := hd (X4.out.keep hbl)
  have P15 := hd (P14.out.keepB hbl)
  have P25 := hd (P2.out.keepB hbl)
  have P35 := hd hbs
  clear hbs hbl B4 X4 P14 P2
  go_wp2_with fail
  refine (join_built (N := w.heap.size) B5.out.size P15.out P25.out P35.out X5.out HY.out G.out.1 G.out.2.1 G.out.2.2 HL.out p1 p2 p3 (by omega)).mono ?_
  rintro e w6 ⟨q4, c4, rfl, hbs, hbl⟩
  have B6 := hd (below_below B5.out hbl)
  have X6 := hd (X5.out.keep hbl)
  have P6 := hd hbs
  clear hbs hbl B5 X5 P15 P25 P35
  go_wp2_with fail
  refine (New_any P6.out).mono ?_
  rintro e w7 ⟨rb, rfl, hrb, hr, hbl⟩
  have R := hd (Nat.le_trans B6.out.size hrb)
  have B7 := hd (below_below B6.out hbl)
  have X7 := hd (X6.out.keep hbl)
  have D7 := hd hr
  clear hrb hr hbl B6 X6 P6
  go_wp2_with fail
  refine (RU_is D7.out k S1.out).mono ?_
  rintro e w8 ⟨rfl, hr, hkp⟩
  have B8 := hd (below_kp B7.out R.out hkp)
  have X8 := hd (X7.out.keepO hkp R.out)
  have D8 := hd hr
  clear hr hkp B7 X7 D7
  go_wp2_with fail
  refine (RS_of D8.out k S2.out).mono ?_
  rintro e w9 ⟨rfl, hr, hkp⟩
  have B9 := hd (below_kp B8.out R.out hkp)
  have X9 := hd (X8.out.keepO hkp R.out)
  have D9 := hd hr
  clear hr hkp B8 X8 D8
  go_wp2_with fail
  refine (RText_is D9.out _ S3.out s (str_bytes s)).mono ?_
  rintro e w10 ⟨rfl, hr, hkp⟩
  have B10 := hd (below_kp B9.out R.out hkp)
  have X10 := hd (X9.out.keepO hkp R.out)
  have D10 := hd hr
  clear hr hkp B9 X9 D9
  go_wp2_with fail
  refine (Left_is D10.out len HL.out).mono ?_
  rintro e w11 ⟨rfl, rfl⟩
  go_wp2_with fail
  refine (RRaw_is D10.out (len : Int) len (raw_back l len HL.out) HL.out).mono ?_
  rintro e w12 ⟨q5, c5, rfl, hbs, hr, hkp⟩
  have B12 := hd (below_kp B10.out R.out hkp)
  have X12 := hd (X10.out.keepO hkp R.out)
  have P12 := hd hbs
  have D12 := hd hr
  clear hr hbs hkp B10 X10 D10
  go_wp2_with fail
  refine (eq_true P12.out X12.out).mono ?_
  rintro e w13 ⟨rfl, mm, rfl⟩
  go_wp2_with fail
  refine (Err_any (D12.out.drewN mm)).mono ?_
  rintro e w14 ⟨rfl, rfl⟩
  go_wp2
  go_ret
  exact ⟨rfl, below_drewN B12.out mm⟩

set_option maxRecDepth 100000 in
set_option maxHeartbeats 4000000 in
theorem walkPL (n k : Int) (s t : ByteArray) (a : Option Addr) (len cap : Nat) (w : World) (l : List Int) (n0 : -9223372036854775808 ≤ n) (n1 : n ≤ 9223372036854775807) (hk : n % 9007199254740992 = k) (hn : 0 ≤ n) (ht : s.extract 0 1000 = t) (htl : t.size ≤ 1000) (hsl : 1000 < s.size)
    (hx : Bx w.heap.size w (.slice a len cap) l) (hlen : l.length = len) (hb : len ≤ 140737488351232) (hbyt : Byt l) (k1 k2 k3 : Nat)
    (g1 : (Num.enc k).length = k1) (g2 : (Num.enc (foldI k)).length = k2) (g3 : (Num.enc t.size ++ bytesOf t).length = k3) (p1 : 0 < k1) (p2 : 0 < k2) (p3 : 0 < k3) (z1 : k1 ≤ 8) (z2 : k2 ≤ 8) (z3 : k3 ≤ 1008) :
    Calls Try.prog 5 #[.int .i64 n, .string s, .slice a len cap] w fun e w' => TrueEnd w e w' := by
  have HK := hd hk
  have hk0 : 0 ≤ k := by omega
  have hk1 : k ≤ 9007199254740991 := by omega
  have HX := hd hx
  have HL := hd hlen
  have HY := hd hbyt
  have htl' : (t.size : Int) ≤ 1000 := by omega
  have HSB := hd (foldI_bd k (by omega) (by omega))
  have HU : Hid (∀ w, Calls Try.prog 9 #[.int .i64 k] w fun e w' => MadeK w (Num.enc k) k1 e w') := fun w => (U_made k w hk0 hk1).mono (fun e w' h => madeK h k1 g1)
  have HS : Hid (∀ w, Calls Try.prog 11 #[.int .i64 k] w fun e w' => MadeK w (Num.enc (foldI k)) k2 e w') := fun w => (S_made k w (by omega) (by omega)).mono (fun e w' h => madeK h k2 g2)
  have HTX : Hid (∀ w, Calls Try.prog 13 #[.string t] w fun e w' => MadeK w (Num.enc t.size ++ bytesOf t) k3 e w') := fun w => (Text_ok t w (by omega)).mono (fun e w' h => madeK h k3 g3)
  have G : Hid ((Num.enc k).length = k1 ∧ (Num.enc (foldI k)).length = k2 ∧ (Num.enc t.size ++ bytesOf t).length = k3) := ⟨g1, g2, g3⟩
  have YY : Hid (Byt (Num.enc k) ∧ Byt (Num.enc (foldI k)) ∧ Byt (Num.enc t.size ++ bytesOf t)) := ⟨enc_byt k hk0 (by omega), enc_byt _ HSB.out.1 (by have := HSB.out; omega), (enc_byt t.size (by omega) (by omega)).append (bytesOf_byt t)⟩
  have HTT := hd ht
  have hsl' : (1000 : Int) < (s.size : Int) := by omega
  clear ht
  have S1 : Hid (uStep 9007199254740991 (Num.enc k ++ Num.enc (foldI k) ++ (Num.enc t.size ++ bytesOf t) ++ l) 0 = (k, Num.enc (foldI k) ++ ((Num.enc t.size ++ bytesOf t) ++ l), 0)) := by
    show _ = _
    rw [List.append_assoc (Num.enc k ++ Num.enc (foldI k)), List.append_assoc (Num.enc k)]
    exact uStep_ok _ k _ hk0 (by omega) hk1
  have S2 : Hid (uStep 18014398509481982 (Num.enc (foldI k) ++ ((Num.enc t.size ++ bytesOf t) ++ l)) 0 = (foldI k, (Num.enc t.size ++ bytesOf t) ++ l, 0)) := uStep_ok _ _ _ HSB.out.1 (by have := HSB.out; omega) HSB.out.2
  have S3 := hd (text_back t l (by omega))
  clear hk hx hlen hbyt g1 g2 g3
  go_enter Try.func5, Try.ntmps5
  go_wp2_with fail
  refine (works_true _).mono ?_
  rintro e w1 ⟨rfl, hbl⟩
  have B1 := hd hbl
  have X1 := hd (HX.out.keep hbl)
  clear hbl HX
  go_wp2_with fail
  refine (bring_any _ _ _ n0 n1 (by omega) (by omega)).mono ?_
  rintro e w2 ⟨rfl, rfl⟩
  rw [HK.out, HTT.out]
  go_wp2_with fail
  refine (HU.out _).mono ?_
  rintro e w3 ⟨q1, c1, rfl, hbs, hbl⟩
  have B3 := hd (below_below B1.out hbl)
  have X3 := hd (X1.out.keep hbl)
  have P1 := hd hbs
  clear hbs hbl B1 X1
  go_wp2_with fail
  refine (HS.out _).mono ?_
  rintro e w4 ⟨q2, c2, rfl, hbs, hbl⟩
  have B4 := hd (below_below B3.out hbl)
  have X4 := hd (X3.out.keep hbl)
  have P14 := hd (P1.out.keepB hbl)
  have P2 := hd hbs
  clear hbs hbl B3 X3 P1
  go_wp2_with fail
  refine (HTX.out _).mono ?_
  rintro e w5 ⟨q3, c3, rfl, hbs, hbl⟩
  have B5 := hd (below_below B4.out hbl)
  have X5 := hd (X4.out.keep hbl)
  have P15 := hd (P14.out.keepB hbl)
  have P25 := hd (P2.out.keepB hbl)
  have P35 := hd hbs
  clear hbs hbl B4 X4 P14 P2
  go_wp2_with fail
  refine (join_built (N := w.heap.size) B5.out.size P15.out P25.out P35.out X5.out HY.out G.out.1 G.out.2.1 G.out.2.2 HL.out p1 p2 p3 (by omega)).mono ?_
  rintro e w6 ⟨q4, c4, rfl, hbs, hbl⟩
  have B6 := hd (below_below B5.out hbl)
  have X6 := hd (X5.out.keep hbl)
  have P6 := hd hbs
  clear hbs hbl B5 X5 P15 P25 P35
  go_wp2_with fail
  refine (New_any P6.out).mono ?_
  rintro e w7 ⟨rb, rfl, hrb, hr, hbl⟩
  have R := hd (Nat.le_trans B6.out.size hrb)
  have B7 := hd (below_below B6.out hbl)
  have X7 := hd (X6.out.keep hbl)
  have D7 := hd hr
  clear hrb hr hbl B6 X6 P6
  go_wp2_with fail
  refine (RU_is D7.out k S1.out).mono ?_
  rintro e w8 ⟨rfl, hr, hkp⟩
  have B8 := hd (below_kp B7.out R.out hkp)
  have X8 := hd (X7.out.keepO hkp R.out)
  have D8 := hd hr
  clear hr hkp B7 X7 D7
  go_wp2_with fail
  refine (RS_of D8.out k S2.out).mono ?_
  rintro e w9 ⟨rfl, hr, hkp⟩
  have B9 := hd (below_kp B8.out R.out hkp)
  have X9 := hd (X8.out.keepO hkp R.out)
  have D9 := hd hr
  clear hr hkp B8 X8 D8
  go_wp2_with fail
  refine (RText_is D9.out _ S3.out t (str_bytes t)).mono ?_
  rintro e w10 ⟨rfl, hr, hkp⟩
  have B10 := hd (below_kp B9.out R.out hkp)
  have X10 := hd (X9.out.keepO hkp R.out)
  have D10 := hd hr
  clear hr hkp B9 X9 D9
  go_wp2_with fail
  refine (Left_is D10.out len HL.out).mono ?_
  rintro e w11 ⟨rfl, rfl⟩
  go_wp2_with fail
  refine (RRaw_is D10.out (len : Int) len (raw_back l len HL.out) HL.out).mono ?_
  rintro e w12 ⟨q5, c5, rfl, hbs, hr, hkp⟩
  have B12 := hd (below_kp B10.out R.out hkp)
  have X12 := hd (X10.out.keepO hkp R.out)
  have P12 := hd hbs
  have D12 := hd hr
  clear hr hbs hkp B10 X10 D10
  go_wp2_with fail
  refine (eq_true P12.out X12.out).mono ?_
  rintro e w13 ⟨rfl, mm, rfl⟩
  go_wp2_with fail
  refine (Err_any (D12.out.drewN mm)).mono ?_
  rintro e w14 ⟨rfl, rfl⟩
  go_wp2
  go_ret
  exact ⟨rfl, below_drewN B12.out mm⟩

set_option maxRecDepth 100000 in
set_option maxHeartbeats 4000000 in
theorem walkMS (n k : Int) (s t : ByteArray) (a : Option Addr) (len cap : Nat) (w : World) (l : List Int) (n0 : -9223372036854775808 ≤ n) (n1 : n ≤ 9223372036854775807) (hk : n % 9007199254740992 = k) (hn : n < 0) (htl : s.size ≤ 1000)
    (hx : Bx w.heap.size w (.slice a len cap) l) (hlen : l.length = len) (hb : len ≤ 140737488351232) (hbyt : Byt l) (k1 k2 k3 : Nat)
    (g1 : (Num.enc k).length = k1) (g2 : (Num.enc (foldI (-k))).length = k2) (g3 : (Num.enc s.size ++ bytesOf s).length = k3) (p1 : 0 < k1) (p2 : 0 < k2) (p3 : 0 < k3) (z1 : k1 ≤ 8) (z2 : k2 ≤ 8) (z3 : k3 ≤ 1008) :
    Calls Try.prog 5 #[.int .i64 n, .string s, .slice a len cap] w fun e w' => TrueEnd w e w' := by
  have HK := hd hk
  have hk0 : 0 ≤ k := by omega
  have hk1 : k ≤ 9007199254740991 := by omega
  have HX := hd hx
  have HL := hd hlen
  have HY := hd hbyt
  have htl' : (s.size : Int) ≤ 1000 := by omega
  have HSB := hd (foldI_bd (-k) (by omega) (by omega))
  have HU : Hid (∀ w, Calls Try.prog 9 #[.int .i64 k] w fun e w' => MadeK w (Num.enc k) k1 e w') := fun w => (U_made k w hk0 hk1).mono (fun e w' h => madeK h k1 g1)
  have HS : Hid (∀ w, Calls Try.prog 11 #[.int .i64 (-k)] w fun e w' => MadeK w (Num.enc (foldI (-k))) k2 e w') := fun w => (S_made (-k) w (by omega) (by omega)).mono (fun e w' h => madeK h k2 g2)
  have HTX : Hid (∀ w, Calls Try.prog 13 #[.string s] w fun e w' => MadeK w (Num.enc s.size ++ bytesOf s) k3 e w') := fun w => (Text_ok s w (by omega)).mono (fun e w' h => madeK h k3 g3)
  have G : Hid ((Num.enc k).length = k1 ∧ (Num.enc (foldI (-k))).length = k2 ∧ (Num.enc s.size ++ bytesOf s).length = k3) := ⟨g1, g2, g3⟩
  have YY : Hid (Byt (Num.enc k) ∧ Byt (Num.enc (foldI (-k))) ∧ Byt (Num.enc s.size ++ bytesOf s)) := ⟨enc_byt k hk0 (by omega), enc_byt _ HSB.out.1 (by have := HSB.out; omega), (enc_byt s.size (by omega) (by omega)).append (bytesOf_byt s)⟩
  have htn : decide ((1000 : Int) < (s.size : Int)) = false := by rw [decide_eq_false_iff_not]; omega
  have S1 : Hid (uStep 9007199254740991 (Num.enc k ++ Num.enc (foldI (-k)) ++ (Num.enc s.size ++ bytesOf s) ++ l) 0 = (k, Num.enc (foldI (-k)) ++ ((Num.enc s.size ++ bytesOf s) ++ l), 0)) := by
    show _ = _
    rw [List.append_assoc (Num.enc k ++ Num.enc (foldI (-k))), List.append_assoc (Num.enc k)]
    exact uStep_ok _ k _ hk0 (by omega) hk1
  have S2 : Hid (uStep 18014398509481982 (Num.enc (foldI (-k)) ++ ((Num.enc s.size ++ bytesOf s) ++ l)) 0 = (foldI (-k), (Num.enc s.size ++ bytesOf s) ++ l, 0)) := uStep_ok _ _ _ HSB.out.1 (by have := HSB.out; omega) HSB.out.2
  have S3 := hd (text_back s l (by omega))
  clear hk hx hlen hbyt g1 g2 g3
  go_enter Try.func5, Try.ntmps5
  go_wp2_with fail
  refine (works_true _).mono ?_
  rintro e w1 ⟨rfl, hbl⟩
  have B1 := hd hbl
  have X1 := hd (HX.out.keep hbl)
  clear hbl HX
  go_wp2_with fail
  refine (bring_any _ _ _ n0 n1 (by omega) (by omega)).mono ?_
  rintro e w2 ⟨rfl, rfl⟩
  rw [HK.out]
  go_wp2_with fail
  refine (HU.out _).mono ?_
  rintro e w3 ⟨q1, c1, rfl, hbs, hbl⟩
  have B3 := hd (below_below B1.out hbl)
  have X3 := hd (X1.out.keep hbl)
  have P1 := hd hbs
  clear hbs hbl B1 X1
  go_wp2_with fail
  refine (HS.out _).mono ?_
  rintro e w4 ⟨q2, c2, rfl, hbs, hbl⟩
  have B4 := hd (below_below B3.out hbl)
  have X4 := hd (X3.out.keep hbl)
  have P14 := hd (P1.out.keepB hbl)
  have P2 := hd hbs
  clear hbs hbl B3 X3 P1
  go_wp2_with fail
  refine (HTX.out _).mono ?_
  rintro e w5 ⟨q3, c3, rfl, hbs, hbl⟩
  have B5 := hd (below_below B4.out hbl)
  have X5 := hd (X4.out.keep hbl)
  have P15 := hd (P14.out.keepB hbl)
  have P25 := hd (P2.out.keepB hbl)
  have P35 := hd hbs
  clear hbs hbl B4 X4 P14 P2
  go_wp2_with fail
  refine (join_built (N := w.heap.size) B5.out.size P15.out P25.out P35.out X5.out HY.out G.out.1 G.out.2.1 G.out.2.2 HL.out p1 p2 p3 (by omega)).mono ?_
  rintro e w6 ⟨q4, c4, rfl, hbs, hbl⟩
  have B6 := hd (below_below B5.out hbl)
  have X6 := hd (X5.out.keep hbl)
  have P6 := hd hbs
  clear hbs hbl B5 X5 P15 P25 P35
  go_wp2_with fail
  refine (New_any P6.out).mono ?_
  rintro e w7 ⟨rb, rfl, hrb, hr, hbl⟩
  have R := hd (Nat.le_trans B6.out.size hrb)
  have B7 := hd (below_below B6.out hbl)
  have X7 := hd (X6.out.keep hbl)
  have D7 := hd hr
  clear hrb hr hbl B6 X6 P6
  go_wp2_with fail
  refine (RU_is D7.out k S1.out).mono ?_
  rintro e w8 ⟨rfl, hr, hkp⟩
  have B8 := hd (below_kp B7.out R.out hkp)
  have X8 := hd (X7.out.keepO hkp R.out)
  have D8 := hd hr
  clear hr hkp B7 X7 D7
  go_wp2_with fail
  refine (RS_of D8.out (-k) S2.out).mono ?_
  rintro e w9 ⟨rfl, hr, hkp⟩
  have B9 := hd (below_kp B8.out R.out hkp)
  have X9 := hd (X8.out.keepO hkp R.out)
  have D9 := hd hr
  clear hr hkp B8 X8 D8
  go_wp2_with fail
  refine (RText_is D9.out _ S3.out s (str_bytes s)).mono ?_
  rintro e w10 ⟨rfl, hr, hkp⟩
  have B10 := hd (below_kp B9.out R.out hkp)
  have X10 := hd (X9.out.keepO hkp R.out)
  have D10 := hd hr
  clear hr hkp B9 X9 D9
  go_wp2_with fail
  refine (Left_is D10.out len HL.out).mono ?_
  rintro e w11 ⟨rfl, rfl⟩
  go_wp2_with fail
  refine (RRaw_is D10.out (len : Int) len (raw_back l len HL.out) HL.out).mono ?_
  rintro e w12 ⟨q5, c5, rfl, hbs, hr, hkp⟩
  have B12 := hd (below_kp B10.out R.out hkp)
  have X12 := hd (X10.out.keepO hkp R.out)
  have P12 := hd hbs
  have D12 := hd hr
  clear hr hbs hkp B10 X10 D10
  go_wp2_with fail
  refine (eq_true P12.out X12.out).mono ?_
  rintro e w13 ⟨rfl, mm, rfl⟩
  go_wp2_with fail
  refine (Err_any (D12.out.drewN mm)).mono ?_
  rintro e w14 ⟨rfl, rfl⟩
  go_wp2
  go_ret
  exact ⟨rfl, below_drewN B12.out mm⟩

set_option maxRecDepth 100000 in
set_option maxHeartbeats 4000000 in
theorem walkML (n k : Int) (s t : ByteArray) (a : Option Addr) (len cap : Nat) (w : World) (l : List Int) (n0 : -9223372036854775808 ≤ n) (n1 : n ≤ 9223372036854775807) (hk : n % 9007199254740992 = k) (hn : n < 0) (ht : s.extract 0 1000 = t) (htl : t.size ≤ 1000) (hsl : 1000 < s.size)
    (hx : Bx w.heap.size w (.slice a len cap) l) (hlen : l.length = len) (hb : len ≤ 140737488351232) (hbyt : Byt l) (k1 k2 k3 : Nat)
    (g1 : (Num.enc k).length = k1) (g2 : (Num.enc (foldI (-k))).length = k2) (g3 : (Num.enc t.size ++ bytesOf t).length = k3) (p1 : 0 < k1) (p2 : 0 < k2) (p3 : 0 < k3) (z1 : k1 ≤ 8) (z2 : k2 ≤ 8) (z3 : k3 ≤ 1008) :
    Calls Try.prog 5 #[.int .i64 n, .string s, .slice a len cap] w fun e w' => TrueEnd w e w' := by
  have HK := hd hk
  have hk0 : 0 ≤ k := by omega
  have hk1 : k ≤ 9007199254740991 := by omega
  have HX := hd hx
  have HL := hd hlen
  have HY := hd hbyt
  have htl' : (t.size : Int) ≤ 1000 := by omega
  have HSB := hd (foldI_bd (-k) (by omega) (by omega))
  have HU : Hid (∀ w, Calls Try.prog 9 #[.int .i64 k] w fun e w' => MadeK w (Num.enc k) k1 e w') := fun w => (U_made k w hk0 hk1).mono (fun e w' h => madeK h k1 g1)
  have HS : Hid (∀ w, Calls Try.prog 11 #[.int .i64 (-k)] w fun e w' => MadeK w (Num.enc (foldI (-k))) k2 e w') := fun w => (S_made (-k) w (by omega) (by omega)).mono (fun e w' h => madeK h k2 g2)
  have HTX : Hid (∀ w, Calls Try.prog 13 #[.string t] w fun e w' => MadeK w (Num.enc t.size ++ bytesOf t) k3 e w') := fun w => (Text_ok t w (by omega)).mono (fun e w' h => madeK h k3 g3)
  have G : Hid ((Num.enc k).length = k1 ∧ (Num.enc (foldI (-k))).length = k2 ∧ (Num.enc t.size ++ bytesOf t).length = k3) := ⟨g1, g2, g3⟩
  have YY : Hid (Byt (Num.enc k) ∧ Byt (Num.enc (foldI (-k))) ∧ Byt (Num.enc t.size ++ bytesOf t)) := ⟨enc_byt k hk0 (by omega), enc_byt _ HSB.out.1 (by have := HSB.out; omega), (enc_byt t.size (by omega) (by omega)).append (bytesOf_byt t)⟩
  have HTT := hd ht
  have hsl' : (1000 : Int) < (s.size : Int) := by omega
  clear ht
  have S1 : Hid (uStep 9007199254740991 (Num.enc k ++ Num.enc (foldI (-k)) ++ (Num.enc t.size ++ bytesOf t) ++ l) 0 = (k, Num.enc (foldI (-k)) ++ ((Num.enc t.size ++ bytesOf t) ++ l), 0)) := by
    show _ = _
    rw [List.append_assoc (Num.enc k ++ Num.enc (foldI (-k))), List.append_assoc (Num.enc k)]
    exact uStep_ok _ k _ hk0 (by omega) hk1
  have S2 : Hid (uStep 18014398509481982 (Num.enc (foldI (-k)) ++ ((Num.enc t.size ++ bytesOf t) ++ l)) 0 = (foldI (-k), (Num.enc t.size ++ bytesOf t) ++ l, 0)) := uStep_ok _ _ _ HSB.out.1 (by have := HSB.out; omega) HSB.out.2
  have S3 := hd (text_back t l (by omega))
  clear hk hx hlen hbyt g1 g2 g3
  go_enter Try.func5, Try.ntmps5
  go_wp2_with fail
  refine (works_true _).mono ?_
  rintro e w1 ⟨rfl, hbl⟩
  have B1 := hd hbl
  have X1 := hd (HX.out.keep hbl)
  clear hbl HX
  go_wp2_with fail
  refine (bring_any _ _ _ n0 n1 (by omega) (by omega)).mono ?_
  rintro e w2 ⟨rfl, rfl⟩
  rw [HK.out, HTT.out]
  go_wp2_with fail
  refine (HU.out _).mono ?_
  rintro e w3 ⟨q1, c1, rfl, hbs, hbl⟩
  have B3 := hd (below_below B1.out hbl)
  have X3 := hd (X1.out.keep hbl)
  have P1 := hd hbs
  clear hbs hbl B1 X1
  go_wp2_with fail
  refine (HS.out _).mono ?_
  rintro e w4 ⟨q2, c2, rfl, hbs, hbl⟩
  have B4 := hd (below_below B3.out hbl)
  have X4 := hd (X3.out.keep hbl)
  have P14 := hd (P1.out.keepB hbl)
  have P2 := hd hbs
  clear hbs hbl B3 X3 P1
  go_wp2_with fail
  refine (HTX.out _).mono ?_
  rintro e w5 ⟨q3, c3, rfl, hbs, hbl⟩
  have B5 := hd (below_below B4.out hbl)
  have X5 := hd (X4.out.keep hbl)
  have P15 := hd (P14.out.keepB hbl)
  have P25 := hd (P2.out.keepB hbl)
  have P35 := hd hbs
  clear hbs hbl B4 X4 P14 P2
  go_wp2_with fail
  refine (join_built (N := w.heap.size) B5.out.size P15.out P25.out P35.out X5.out HY.out G.out.1 G.out.2.1 G.out.2.2 HL.out p1 p2 p3 (by omega)).mono ?_
  rintro e w6 ⟨q4, c4, rfl, hbs, hbl⟩
  have B6 := hd (below_below B5.out hbl)
  have X6 := hd (X5.out.keep hbl)
  have P6 := hd hbs
  clear hbs hbl B5 X5 P15 P25 P35
  go_wp2_with fail
  refine (New_any P6.out).mono ?_
  rintro e w7 ⟨rb, rfl, hrb, hr, hbl⟩
  have R := hd (Nat.le_trans B6.out.size hrb)
  have B7 := hd (below_below B6.out hbl)
  have X7 := hd (X6.out.keep hbl)
  have D7 := hd hr
  clear hrb hr hbl B6 X6 P6
  go_wp2_with fail
  refine (RU_is D7.out k S1.out).mono ?_
  rintro e w8 ⟨rfl, hr, hkp⟩
  have B8 := hd (below_kp B7.out R.out hkp)
  have X8 := hd (X7.out.keepO hkp R.out)
  have D8 := hd hr
  clear hr hkp B7 X7 D7
  go_wp2_with fail
  refine (RS_of D8.out (-k) S2.out).mono ?_
  rintro e w9 ⟨rfl, hr, hkp⟩
  have B9 := hd (below_kp B8.out R.out hkp)
  have X9 := hd (X8.out.keepO hkp R.out)
  have D9 := hd hr
  clear hr hkp B8 X8 D8
  go_wp2_with fail
  refine (RText_is D9.out _ S3.out t (str_bytes t)).mono ?_
  rintro e w10 ⟨rfl, hr, hkp⟩
  have B10 := hd (below_kp B9.out R.out hkp)
  have X10 := hd (X9.out.keepO hkp R.out)
  have D10 := hd hr
  clear hr hkp B9 X9 D9
  go_wp2_with fail
  refine (Left_is D10.out len HL.out).mono ?_
  rintro e w11 ⟨rfl, rfl⟩
  go_wp2_with fail
  refine (RRaw_is D10.out (len : Int) len (raw_back l len HL.out) HL.out).mono ?_
  rintro e w12 ⟨q5, c5, rfl, hbs, hr, hkp⟩
  have B12 := hd (below_kp B10.out R.out hkp)
  have X12 := hd (X10.out.keepO hkp R.out)
  have P12 := hd hbs
  have D12 := hd hr
  clear hr hbs hkp B10 X10 D10
  go_wp2_with fail
  refine (eq_true P12.out X12.out).mono ?_
  rintro e w13 ⟨rfl, mm, rfl⟩
  go_wp2_with fail
  refine (Err_any (D12.out.drewN mm)).mono ?_
  rintro e w14 ⟨rfl, rfl⟩
  go_wp2
  go_ret
  exact ⟨rfl, below_drewN B12.out mm⟩

theorem walk (n : Int) (wn : (Lit.int .i64 n).wf = true) (s : ByteArray) (ws : s.size ≤ maxLen) (a : Option Addr) (len cap : Nat) (zs : List Int) (W : World) (h : IsRow .u8 W a len cap zs) :
    Calls Try.prog 5 #[.int .i64 n, .string s, .slice a len cap] W fun e w' => e = .returned (.bool true) ∧ Below W.heap.size W w' := by
  obtain ⟨n0, n1⟩ := bounds_i64 wn
  obtain ⟨hx, hlen, hb, hbyt⟩ := h.bx
  obtain ⟨k, hk⟩ : ∃ k, n % 9007199254740992 = k := ⟨_, rfl⟩
  have sz8 : ∀ x : Int, 0 ≤ x → 0 < (Num.enc x).length ∧ (Num.enc x).length ≤ 8 := by
    intro x hx
    have h1 := Num.enc_length x
    have h2 := Num.sz_bd x hx
    omega
  have tx : ∀ t : ByteArray, t.size ≤ 1000 → 0 < (Num.enc t.size ++ bytesOf t).length ∧ (Num.enc t.size ++ bytesOf t).length ≤ 1008 := by
    intro t ht
    have h1 := sz8 t.size (by omega)
    rw [List.length_append, bytesOf_length]
    omega
  have ha := sz8 k (by omega)
  have hp := sz8 (foldI k) (foldI_bd k (by omega) (by omega)).1
  have hm := sz8 (foldI (-k)) (foldI_bd (-k) (by omega) (by omega)).1
  by_cases hn : 0 ≤ n
  · by_cases hs : s.size ≤ 1000
    · have ht := tx s hs
      exact walkPS n k s s a len cap W _ n0 n1 hk hn hs hx hlen hb hbyt _ _ _ rfl rfl rfl ha.1 hp.1 ht.1 ha.2 hp.2 ht.2
    · have hz : (s.extract 0 1000).size ≤ 1000 := by rw [ByteArray.size_extract]; omega
      have ht := tx _ hz
      exact walkPL n k s _ a len cap W _ n0 n1 hk hn rfl hz (by omega) hx hlen hb hbyt _ _ _ rfl rfl rfl ha.1 hp.1 ht.1 ha.2 hp.2 ht.2
  · by_cases hs : s.size ≤ 1000
    · have ht := tx s hs
      exact walkMS n k s s a len cap W _ n0 n1 hk (by omega) hs hx hlen hb hbyt _ _ _ rfl rfl rfl ha.1 hm.1 ht.1 ha.2 hm.2 ht.2
    · have hz : (s.extract 0 1000).size ≤ 1000 := by rw [ByteArray.size_extract]; omega
      have ht := tx _ hz
      exact walkML n k s _ a len cap W _ n0 n1 hk (by omega) rfl hz (by omega) hx hlen hb hbyt _ _ _ rfl rfl rfl ha.1 hm.1 ht.1 ha.2 hm.2 ht.2

theorem own : ownKnob Try.prog.godebug = none := by kernel_rfl
theorem laidOut : laidOutB Try.prog = true := by kernel_rfl
theorem bytes5 : Try.prog.bytesOf 5 = 1 := by kernel_rfl

set_option maxRecDepth 100000 in
theorem lifted (os : Os) (started : os.Started) (H : Type) (enc : TypeId × Value → H) :
    ReturnsInHanded {} Try.checked os 5 .any (Rows.digitsBackSpec.pre6 enc Try.prog Try.f5 Rows.digitsBackRow.domain false) (Rows.digitsBackSpec.post enc Try.prog Try.f5 false true false false) := by
  refine returnsInHanded_of_change_sized (C := Try.checked) own started (by kernel_rfl) Try.func5
    (ChangeSpec.witness6 (enc := enc) (C := Try.checked) false ⟨#[], #[.int .i64 0, .string ByteArray.empty, .slice none 0 0], []⟩ 8 (by kernel_rfl) (by kernel_rfl) (by kernel_rfl) (by kernel_rfl)) ?_
  intro W base args ds gs before hval0 hW hcnd hsz0 _
  have hsz : (DataW.weightsEach Try.prog (Try.f5.params.toList ++ Rows.digitsBackSpec.plain.varTypes Try.prog) (ds ++ gs)).all (· ≤ reachBytes) = true := hsz0
  have hval : ∀ (j : Nat) t v, Try.f5.params[j]? = some t → args[j]? = some v → Value.okWide Try.prog W .any base t v := hval0
  have hW' := hW
  obtain ⟨p, q, hA0, hV, rfl, hfz, hnd⟩ := hW
  have hA : DataW.TrodAll enc Try.prog W 0 (fun _ => true) true Try.f5.params.toList args.toList ds p := hA0
  rw [Try.params5] at hA hval hsz
  obtain ⟨v0, vs0, d0, ds0, p0, q0, hargs, rfl, rfl, h0, r0⟩ := trodAll_cons hA
  obtain ⟨v1, vs1, d1, ds1, p1, q1, rfl, rfl, rfl, h1, r1⟩ := trodAll_cons r0
  obtain ⟨v2, vs2, d2, ds2, p2, q2, rfl, rfl, rfl, h2, r2⟩ := trodAll_cons r1
  obtain ⟨rfl, rfl, rfl⟩ := trodAll_nil r2
  obtain rfl : args = #[v0, v1, v2] := by cases args; simp_all
  obtain ⟨rfl, rfl⟩ := trodVars_none hV
  obtain ⟨a0, rfl, rfl, rfl, w0⟩ := open_int Try.underlying3 (hval 0 3 v0 rfl rfl) h0
  obtain ⟨a1, rfl, rfl, rfl, w1⟩ := open_string Try.underlying9 (hval 1 9 v1 rfl rfl) h1
  obtain ⟨a2, len2, cap2, rfl⟩ := okWide_slice Try.underlying22 (hval 2 22 v2 rfl rfl)
  have k2 := h2
  have lt2 : ∀ x ∈ p2, x.block < W.heap.size := by obtain ⟨m, hm⟩ := k2; exact DataW.trod_lt m _ _ _ hm
  obtain ⟨z2, w2⟩ : ∃ zs, IsRow .u8 W a2 len2 cap2 zs := by
    obtain ⟨fuel, hf⟩ := h2
    rcases open_ints Try.underlying22 Try.underlying5 (by kernel_rfl) hf with ⟨hcs, _⟩ | ⟨x, l, c, zs, hcs, _, hl, hm, hz, hdx, hcell, hwz⟩
    · simp [Value.cells] at hcs
      obtain ⟨rfl, rfl, rfl⟩ := hcs
      exact ⟨[], .inl ⟨rfl, rfl, rfl, rfl⟩⟩
    · simp [Value.cells] at hcs
      obtain ⟨rfl, rfl, rfl⟩ := hcs
      have hzl : zs.length = cap2 := by simpa using hz
      have hdd : d2 = .slice (lits .u8 (zs.take len2)) (lits .u8 (zs.drop len2)) := congrArg Prod.fst hdx
      have hw := sized_slice hsz (j := 2) (t := 22) (e := 5) rfl (by rw [hdd]; rfl) Try.underlying22
      rw [bytes5] at hw
      simp only [lits, List.length_map, List.length_take, List.length_drop, reachBytes] at hw
      exact ⟨zs, .inr ⟨_, rfl, hl, by omega, hzl, hcell, hwz⟩⟩
  clear hA0 hval0
  refine (walk a0 w0 a1 w1 a2 len2 cap2 z2 W w2).mono fun e W' ⟨he, bel⟩ => ?_
  subst he
  exact ⟨_, rfl, _, _, _, [], _, [], hW', trodAll_mk1 (shut_bool Try.underlying4 _), (trodAll_cons_mk (shut_int Try.underlying3 w0) (trodAll_cons_mk (shut_string Try.underlying9 w1) (trodAll_cons_mk (Below.trod laidOut (by kernel_rfl) (of_decide_eq_true (by kernel_rfl)) k2 bel lt2) trodAll_mk0))), rfl, bel.frame _, fun h => by cases h⟩

theorem over : Rows.digitsBackRow.holds Try.pinned (OpenSpec.ofChange Rows.digitsBackSpec) :=
  OpenClaim.holds_of_wide 5 Try.f5 rfl rfl rfl rfl rfl rfl rfl ⟨rfl, rfl, rfl, rfl, rfl⟩ rfl rfl rfl rfl rfl (by kernel_rfl) Try.func5 (by kernel_rfl)
    (of_decide_eq_true (by kernel_rfl)) (by unfold Func.isWrapper; first | (rw [if_pos (by decide +kernel)]; kernel_rfl) | (rw [if_neg (by decide +kernel)]; exact ⟨rfl, rfl⟩))
    (fun os started H enc _ => lifted os started H enc)

end Go.Proofs.Ytdjpdllgifdhaaa.digitsBack
namespace Go.Proofs.Ytdjpdllgifdhaaa

/-- The statement. -/
theorem digitsBack_proved : Rows.DigitsBackSaid := digitsBack.over
#print axioms digitsBack_proved
end Go.Proofs.Ytdjpdllgifdhaaa
