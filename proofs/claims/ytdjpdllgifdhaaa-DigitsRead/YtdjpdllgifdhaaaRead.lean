/- DigitsRead: for all bytes and whatever is taken off them the law answers true: a reader answers as the chapter says, behind each call. -/
import Derived.Test.YtdjpdllgifdhaaaRx
import Derived.Test.YtdjpdllgifdhaaaRows
import Derived.ProofKit
import Derived.OpenShut
import Derived.ShutString
import Derived.ChangeOld
import Derived.SizedLaws
namespace Go.Proofs.Ytdjpdllgifdhaaa.digitsRead
open Go.ChangeShapes Go.WideShapes Go.ChangeAt Go.RowKit
open Go.ChangeMaps (open_string shut_string)
set_option linter.unusedVariables false

theorem u_both (most : Int) (l lx : List Int) (e : Int) (h : e = 0 → lx = l) : ∃ n l' lx' e', uStep most l e = (n, l', e') ∧ xStep most lx e = (n, lx', e') ∧ (e' = 0 → lx' = l') := by
  obtain ⟨h1, h2, h3⟩ := u_agree most l lx e h
  exact ⟨(uStep most l e).1, (uStep most l e).2.1, (xStep most lx e).2.1, (uStep most l e).2.2, rfl, by rw [h1, h2], h3⟩

theorem raw_both (n : Int) (l lx : List Int) (e : Int) (h : e = 0 → lx = l) : ∃ bs l' lx' e', bStep (rawR n l) l e = (bs, l', e') ∧ xRaw n lx e = (bs, lx', e') ∧ (e' = 0 → lx' = l') := by
  obtain ⟨h1, h2, h3⟩ := raw_agree n l lx e h
  exact ⟨(bStep (rawR n l) l e).1, (bStep (rawR n l) l e).2.1, (xRaw n lx e).2.1, (bStep (rawR n l) l e).2.2, rfl, by rw [h1, h2], h3⟩

theorem text_both (n : Int) (l lx : List Int) (e : Int) (h : e = 0 → lx = l) : ∃ bs l' lx' e', bStep (textR n l) l e = (bs, l', e') ∧ xText n lx e = (bs, lx', e') ∧ (e' = 0 → lx' = l') := by
  obtain ⟨h1, h2, h3⟩ := text_agree n l lx e h
  exact ⟨(bStep (textR n l) l e).1, (bStep (textR n l) l e).2.1, (xText n lx e).2.1, (bStep (textR n l) l e).2.2, rfl, by rw [h1, h2], h3⟩

/-- How many bytes a reader tells. -/
def leftOf (l : List Int) (e : Int) : Int := if e = 0 then (l.length : Int) else 0

theorem Left_val {RB : Nat} {w : World} {rb : Nat} {l : List Int} {e0 : Int} (h : Rd RB w rb l e0) (m : Int) (hm : leftOf l e0 = m) :
    Calls Try.prog 32 #[.pointer (some ⟨rb, 0, none⟩)] w fun e w' => e = .returned (.int .i64 m) ∧ w' = w := by
  subst hm
  unfold leftOf
  by_cases he : e0 = 0
  · subst he; rw [if_pos rfl]; exact Left_ok h
  · rw [if_neg he]; exact Left_bad h he

theorem LeftX_val {XB : Nat} {w : World} {xb : Nat} {l : List Int} {e0 : Int} (h : Rx XB w xb l e0) (m : Int) (hm : leftOf l e0 = m) :
    Calls Try.prog 33 #[.pointer (some ⟨xb, 0, none⟩)] w fun e w' => e = .returned (.int .i64 m) ∧ w' = w := by
  subst hm
  unfold leftOf
  by_cases he : e0 = 0
  · subst he; rw [if_pos rfl]; exact LeftX_ok h _ rfl
  · rw [if_neg he]; exact LeftX_bad h he

theorem left_same (l lx : List Int) (e : Int) (h : e = 0 → lx = l) : leftOf lx e = leftOf l e := by
  unfold leftOf
  by_cases he : e = 0
  · rw [if_pos he, if_pos he, h he]
  · rw [if_neg he, if_neg he]

theorem Bx.drewN {N : Nat} {w : World} {v : Value} {l : List Int} (h : Bx N w v l) (n : Nat) : Bx N (w.drewN n) v l := h.keep (below_drewN (Below.refl _ _) n)
theorem Bs.drewN {A : Nat → Prop} {w : World} {v : Value} {l : List Int} (h : Bs A w v l) (n : Nat) : Bs A (w.drewN n) v l := h.keepB (below_drewN (Below.refl _ _) n)

theorem eq_true {N : Nat} {A : Nat → Prop} {w : World} {va vb : Value} {l : List Int} (ha : Bs A w va l) (hb : Bx N w vb l) :
    Calls Try.prog 15 #[va, vb] w fun e w' => e = .returned (.bool true) ∧ ∃ m, w' = w.drewN m := by
  refine (eq_bx ha hb).mono ?_
  rintro e w' ⟨rfl, m, rfl⟩
  exact ⟨by rw [decide_eq_true rfl], m, rfl⟩

theorem u_bd {most n e1 e0 : Int} {l l' : List Int} (h : uStep most l e0 = (n, l', e1)) (hm : 0 ≤ most) (hl : Byt l) : 0 ≤ n ∧ n ≤ most := by
  have hb := uStep_bd most l e0 hm hl
  rw [h] at hb
  exact hb

theorem XText_is {XB : Nat} {w : World} {xb : Nat} {l l' bs : List Int} {e0 e1 : Int} (h : Rx XB w xb l e0) (n : Int) (hs : xText n l e0 = (bs, l', e1)) (s : ByteArray) (he : strOfNums bs = s) :
    Calls Try.prog 24 #[.pointer (some ⟨xb, 0, none⟩), .int .i64 n] w fun e w' => e = .returned (.string s) ∧ Rx XB w' xb l' e1 ∧ Kp (fun b => b = xb) w w' := by
  refine (textX_any h n).mono ?_
  intro e w' ht
  rw [hs] at ht
  unfold XText at ht
  rw [he] at ht
  exact ht

theorem Fail_is {RB : Nat} {w : World} {rb : Nat} {l l' : List Int} {e0 e1 e2 : Int} (h : Rd RB w rb l e0) (hl : (if e0 ≠ 0 ∨ e1 = 0 then l else []) = l') (h2 : (if e0 ≠ 0 then e0 else e1) = e2) :
    Calls Try.prog 27 #[.pointer (some ⟨rb, 0, none⟩), .int .i64 e1] w fun e w' => e = .returned (.tuple #[]) ∧ Rd RB w' rb l' e2 ∧ Kp (fun b => b = rb) w w' := by
  by_cases h1 : e1 = 0
  · subst h1
    rw [if_pos (Or.inr rfl)] at hl
    have h3 : e0 = e2 := by
      by_cases hz : e0 ≠ 0
      · rw [if_pos hz] at h2; exact h2
      · rw [if_neg hz] at h2; rw [← h2]; simpa using hz
    subst hl; subst h3
    refine (Fail_ok).mono ?_
    rintro e w' ⟨rfl, rfl⟩
    exact ⟨rfl, h, Kp.refl _ _⟩
  · by_cases hz : e0 ≠ 0
    · rw [if_pos (Or.inl hz)] at hl
      rw [if_pos hz] at h2
      subst hl; subst h2
      refine (Fail_old h hz h1).mono ?_
      rintro e w' ⟨rfl, rfl⟩
      exact ⟨rfl, h, Kp.refl _ _⟩
    · have hz' : e0 = 0 := by simpa using hz
      subst hz'
      rw [if_neg (fun h => h.elim (fun h => hz h) h1)] at hl
      rw [if_neg hz] at h2
      subst hl; subst h2
      refine (Fail_new h h1).mono ?_
      rintro e w' ⟨rfl, rfl⟩
      exact ⟨rfl, h.fail _, kp_fail _ _ _ _⟩

theorem FailX_is {XB : Nat} {w : World} {xb : Nat} {l : List Int} {e0 e1 e2 : Int} (h : Rx XB w xb l e0) (h2 : (if e0 ≠ 0 then e0 else e1) = e2) :
    Calls Try.prog 28 #[.pointer (some ⟨xb, 0, none⟩), .int .i64 e1] w fun e w' => e = .returned (.tuple #[]) ∧ Rx XB w' xb l e2 ∧ Kp (fun b => b = xb) w w' := by
  by_cases hz : e0 ≠ 0
  · rw [if_pos hz] at h2
    subst h2
    refine (FailX_old h hz e1).mono ?_
    rintro e w' ⟨rfl, rfl⟩
    exact ⟨rfl, h, Kp.refl _ _⟩
  · have hz' : e0 = 0 := by simpa using hz
    subst hz'
    rw [if_neg hz] at h2
    subst h2
    refine (FailX_new h e1).mono ?_
    rintro e w' ⟨rfl, rfl⟩
    exact ⟨rfl, h.setE e1, kp_one _ _ _ _⟩

theorem fail_both (l lx : List Int) (e0 e1 : Int) (h : e0 = 0 → lx = l) : ∃ l' e2, (if e0 ≠ 0 ∨ e1 = 0 then l else []) = l' ∧ (if e0 ≠ 0 then e0 else e1) = e2 ∧ (e2 = 0 → lx = l') := by
  refine ⟨_, _, rfl, rfl, ?_⟩
  by_cases hz : e0 ≠ 0
  · rw [if_pos hz]; exact fun q => absurd q hz
  · rw [if_neg hz]
    have hz' : e0 = 0 := by simpa using hz
    intro q
    rw [if_pos (Or.inr q)]
    exact h hz'

def RawEnd (RB : Nat) (w : World) (rb m : Nat) (bs l' : List Int) (e1 : Int) (e : Ending) (w' : World) : Prop :=
  ∃ a cap, e = .returned (.slice a m cap) ∧ Bs (fun b => w.heap.size ≤ b) w' (.slice a m cap) bs ∧ Fr w' (.slice a m cap) m ∧ Rd RB w' rb l' e1 ∧ Kp (fun b => b = rb) w w'

def RawXEnd (XB : Nat) (w : World) (xb m : Nat) (bs l' : List Int) (e1 : Int) (e : Ending) (w' : World) : Prop :=
  ∃ a cap, e = .returned (.slice a m cap) ∧ Bs (fun b => w.heap.size ≤ b) w' (.slice a m cap) bs ∧ Rx XB w' xb l' e1 ∧ Kp (fun b => b = xb) w w'

theorem Raw_is {RB : Nat} {w : World} {rb m : Nat} {l l' bs : List Int} {e0 e1 : Int} (h : Rd RB w rb l e0) (n : Int) (hs : bStep (rawR n l) l e0 = (bs, l', e1)) (hm : bs.length = m) :
    Calls Try.prog 25 #[.pointer (some ⟨rb, 0, none⟩), .int .i64 n] w fun e w' => RawEnd RB w rb m bs l' e1 e w' := by
  subst hm
  refine (RRaw_any h n).mono ?_
  intro e w' ht
  rw [hs] at ht
  exact ht

theorem RawX_is {XB : Nat} {w : World} {xb m : Nat} {l l' bs : List Int} {e0 e1 : Int} (h : Rx XB w xb l e0) (n : Int) (hs : xRaw n l e0 = (bs, l', e1)) (hm : bs.length = m) :
    Calls Try.prog 26 #[.pointer (some ⟨xb, 0, none⟩), .int .i64 n] w fun e w' => RawXEnd XB w xb m bs l' e1 e w' := by
  subst hm
  refine (rawX_any h n).mono ?_
  intro e w' ht
  rw [hs] at ht
  exact ht

/-- The bytes that were handed out, while they are written over. -/
structure CInv (cb off m : Nat) (w w' : World) : Prop where
  kp : Kp (fun b => b = cb) w w'
  cells : ∀ i, i < m → ∃ y, w'.cell? ⟨cb, off + i, none⟩ = some (.int .u8 y)
  free : ∀ i, i < m → w'.frozen? ⟨cb, off + i, none⟩ = false

theorem CInv.start {A : Nat → Prop} {w : World} {a : Option Addr} {m cap : Nat} {bs : List Int} (h : Bs A w (.slice a m cap) bs) (hm : bs.length = m) (f : Fr w (.slice a m cap) m) (h0 : 0 < m) :
    ∃ cb off, a = some ⟨cb, off, none⟩ ∧ m ≤ cap ∧ m ≤ 140737488355328 ∧ A cb ∧ CInv cb off m w w := by
  subst hm
  obtain ⟨h1, h2, h3⟩ := h
  rcases h3 with ⟨_, q⟩ | ⟨b, off, c, hv, hc, ha, hlt, hcell⟩
  · rw [q] at h0; exact absurd h0 (Nat.lt_irrefl 0)
  · cases hv
    exact ⟨b, off, rfl, hc, h2, ha, Kp.refl _ _, fun i hi => ⟨_, hcell i hi⟩, fun i hi => f _ _ _ _ rfl i hi⟩

theorem CInv.set {cb off m : Nat} {w w' : World} (h : CInv cb off m w w') (j : Nat) (hj : j < m) (y : Int) : CInv cb off m w (w'.setCell ⟨cb, off + j, none⟩ (.int .u8 y)) := by
  refine ⟨h.kp.setCell _ _ (fun _ => rfl), ?_, ?_⟩
  · intro i hi
    by_cases hij : i = j
    · subst hij
      obtain ⟨z, hz⟩ := h.cells i hi
      exact ⟨y, by simp [go_sem, hz]⟩
    · obtain ⟨z, hz⟩ := h.cells i hi
      refine ⟨z, ?_⟩
      simp [go_sem, hz]
  · intro i hi
    simpa using h.free i hi

theorem CInv.drewN {cb off m : Nat} {w w' : World} (h : CInv cb off m w w') (n : Nat) : CInv cb off m w (w'.drewN n) :=
  ⟨⟨h.kp.os, h.kp.tape, h.kp.output, h.kp.size, h.kp.block⟩, h.cells, h.free⟩

/-- What holds behind each call: both readers tell the same; what was handed in stays. -/
def Inv (N B1 B2 rb xb : Nat) (w : World) (vin varg : Value) (lb : List Int) (wr : World) : Prop :=
  (∃ l lx e, Rd B1 wr rb l e ∧ Rx B2 wr xb lx e ∧ (e = 0 → lx = l)) ∧ Bs (fun b => N ≤ b ∧ b < B1) wr vin lb ∧ Bx N wr varg lb ∧ Below N w wr ∧ N ≤ wr.heap.size

theorem Inv.keep {N B1 B2 rb xb cb : Nat} {w wr w' : World} {vin varg : Value} {lb : List Int} (h : Inv N B1 B2 rb xb w vin varg lb wr) (k : Kp (fun b => b = cb) wr w') (hc : xb < cb) (hn : N ≤ B1 ∧ B1 ≤ rb ∧ rb < B2 ∧ B2 ≤ xb) : Inv N B1 B2 rb xb w vin varg lb w' := by
  obtain ⟨⟨l, lx, e, h1, h2, h3⟩, h4, h5, h6, h7⟩ := h
  exact ⟨⟨l, lx, e, h1.keepO k (by omega) (by omega), h2.keepO k (by omega) (by omega), h3⟩, h4.keepO k (fun b hb e => by omega), h5.keepO k (by omega), h6.trans (k.below N h7 (fun i hi e => by have e' : i = cb := e; omega)), Nat.le_trans h7 k.size⟩

set_option maxRecDepth 100000 in
set_option maxHeartbeats 8000000 in
theorem walk0 (a : Option Addr) (len cap : Nat) (lb : List Int) (wb wo lw cw : Nat) (zs : List Int) (w : World) (hx : Bx w.heap.size w (.slice a len cap) lb) (hlen : lb.length = len) (hb : len ≤ 140737488351232)
    (hw : ∀ i, i < lw → w.cell? ⟨wb, wo + i, none⟩ = some (.int .i64 (zs.getD i 0))) (hwb : wb < w.heap.size) (hlw : lw ≤ 140737488351232) (hz : ∀ i, -9223372036854775808 ≤ zs.getD i 0 ∧ zs.getD i 0 ≤ 9223372036854775807) :
    Calls Try.prog 4 #[.slice a len cap, .slice (some ⟨wb, wo, none⟩) lw cw] w fun e w' => TrueEnd w e w' := by
  have HX := hd hx
  have HL := hd hlen
  have HW := hd hw
  have HZ := hd hz
  clear hx hlen hw hz
  go_enter Try.func4, Try.ntmps4
  go_wp2_with fail
  refine (copy_bx HX.out).mono ?_
  rintro e w1 ⟨ain, cin, rfl, hbs, hf, hk⟩
  rw [HL.out] at hbs ⊢
  have B1 := hd hk
  have X1 := hd (HX.out.keep hk)
  have P1 := hd hbs
  clear hbs hf hk HX
  go_wp2_with fail
  refine (New_any P1.out).mono ?_
  rintro e w2 ⟨rb, rfl, hrb, hr, hk⟩
  have R2 := hd hrb
  have B2 := hd (below_below B1.out hk)
  have X2 := hd (X1.out.keep hk)
  have P2 : Hid (Bs (fun b => w.heap.size ≤ b ∧ b < w1.heap.size) w2 (.slice ain len cin) lb) := (P1.out.weaken (fun b hb h => And.intro h hb)).keepB hk
  have D2 := hd hr
  have N1 := hd B1.out.size
  clear hrb hr hk B1 X1 P1
  go_wp2_with fail
  refine (NewX_of (copy_bx X2.out)).mono ?_
  rintro e w3 ⟨xb, rfl, hxb, hr, hk⟩
  have R3 : Hid (w.heap.size ≤ w1.heap.size ∧ w1.heap.size ≤ rb ∧ rb < w2.heap.size ∧ w2.heap.size ≤ xb ∧ xb < w3.heap.size) := ⟨N1.out, R2.out, D2.out.lt, hxb, hr.lt⟩
  have I3 : Hid (Inv w.heap.size w1.heap.size w2.heap.size rb xb w (.slice ain len cin) (.slice a len cap) lb w3) :=
    ⟨⟨_, _, _, D2.out.keep hk, hr, fun _ => rfl⟩, P2.out.keepB hk, X2.out.keep hk, below_below B2.out hk, Nat.le_trans B2.out.size hk.size⟩
  clear hxb hr hk B2 X2 P2 D2 N1 R2
  go_wp2_with fail
  go_loopw [8] (fun i wr => ∃ k : Nat, i = .int .i64 k ∧ k ≤ 40 ∧ k ≤ lw ∧ Inv w.heap.size w1.heap.size w2.heap.size rb xb w (.slice ain len cin) (.slice a len cap) lb wr) (fun i _ => 40 - (intOf i).toNat)
  case atStart => exact ⟨0, rfl, by omega, by omega, I3.out⟩
  case round =>
    obtain ⟨k, rfl, hk40, hklw, hinv⟩ := hrel
    have HI := hd hinv
    clear hinv I3
    by_cases hend : k < lw ∧ k < 40
    · obtain ⟨hk1, hk2⟩ := hend
      have hk1' : (k : Int) < (lw : Int) := by omega
      have hk2' : (k : Int) < 40 := by omega
      have hcw : wr.cell? ⟨wb, wo + k, none⟩ = some (.int .i64 (zs.getD k 0)) := (HI.out.2.2.2.1.cell (p := ⟨wb, wo + k, none⟩) hwb).trans (HW.out k hk1)
      have HZk := hd (HZ.out k)
      generalize zs.getD k 0 = z at hcw HZk
      go_wp2_with fail
      refine (bring_any _ _ _ HZk.out.1 HZk.out.2 (by omega) (by omega)).mono ?_
      rintro e w4 ⟨rfl, rfl⟩
      clear hcw
      obtain ⟨⟨l, lx, e0, hRD, hRX, hAG⟩, hPI, hPX, hPB, hPN⟩ := HI.out
      have HRD := hd hRD
      have HRX := hd hRX
      have HAG := hd hAG
      have HPI := hd hPI
      have HPX := hd hPX
      have HPB := hd hPB
      have HPN := hd hPN
      clear hRD hRX hAG hPI hPX hPB hPN HI
      have h6 : z % 6 = 0 ∨ z % 6 = 1 ∨ z % 6 = 2 ∨ z % 6 = 3 ∨ z % 6 = 4 ∨ z % 6 = 5 := by omega
      rcases h6 with h6 | h6 | h6 | h6 | h6 | h6
      · rw [h6]
        clear h6
        obtain ⟨n1, l1, lx1, e1, hu1, hu2, hag⟩ := u_both 9007199254740991 l lx e0 HAG.out
        have U1 := hd hu1
        have U2 := hd hu2
        have AG := hd hag
        clear hu1 hu2 hag
        go_wp2_with fail
        refine (RU_is HRD.out n1 U1.out).mono ?_
        rintro e w5 ⟨rfl, hr, hk⟩
        have RD5 := hd hr
        have RX5 := hd (HRX.out.keepO hk (by have := R3.out; omega) (by have := R3.out; omega))
        have PI5 := hd (HPI.out.keepO hk (fun b hb e => by have := R3.out; omega))
        have PX5 := hd (HPX.out.keepO hk (by have := R3.out; omega))
        have PB5 := hd (HPB.out.trans (hk.below _ HPN.out (fun i hi e => by have := R3.out; have e' : i = rb := e; omega)))
        have PN5 := hd (Nat.le_trans HPN.out hk.size)
        clear hr hk
        go_wp2_with fail
        refine (UX_is RX5.out U2.out).mono ?_
        rintro e w6 ⟨rfl, hr, hk⟩
        have RX := hd hr
        have RD := hd (RD5.out.keepO hk (by have := R3.out; omega) (by have := R3.out; omega))
        have PI := hd (PI5.out.keepO hk (fun b hb e => by have := R3.out; omega))
        have PX := hd (PX5.out.keepO hk (by have := R3.out; omega))
        have PB := hd (PB5.out.trans (hk.below _ PN5.out (fun i hi e => by have := R3.out; have e' : i = xb := e; omega)))
        have PN := hd (Nat.le_trans PN5.out hk.size)
        clear hr hk RD5 RX5 PI5 PX5 PB5 PN5 HRD HRX HAG HPI HPX HPB HPN U1 U2
        obtain ⟨mm, hm⟩ : ∃ m, leftOf l1 e1 = m := ⟨_, rfl⟩
        have ML := hd hm
        have MX := hd ((left_same l1 lx1 e1 AG.out).trans hm)
        clear hm
        go_wp2_with fail
        have hcE := RX.out.err
        go_quiet (first
          | (go_at_call 31; exact Calls.quiet_of_same (Err_any (RD.out.drewN _)))
          | (go_at_call 32; exact Calls.quiet_of_same (Left_val (RD.out.drewN _) mm ML.out))
          | (go_at_call 33; exact Calls.quiet_of_same (LeftX_val (RX.out.drewN _) mm MX.out))
          | (go_at_call 15; exact Calls.quiet_of (eq_true (Bs.drewN PI.out _) (Bx.drewN PX.out _))))
        go_wp2
        go_roundw
        case rel => exact ⟨k + 1, by go_num, by omega, by omega, ⟨⟨_, _, _, RD.out.drewN nq, RX.out.drewN nq, AG.out⟩, Bs.drewN PI.out nq, Bx.drewN PX.out nq, below_drewN PB.out nq, PN.out⟩⟩
        case measure => simp [intOf]; omega
      · rw [h6]
        clear h6
        obtain ⟨n1, l1, lx1, e1, hu1, hu2, hag⟩ := u_both 9007199254740991 l lx e0 HAG.out
        have U1 := hd hu1
        have U2 := hd hu2
        have AG := hd hag
        clear hu1 hu2 hag
        go_wp2_with fail
        refine (RU_is HRD.out n1 U1.out).mono ?_
        rintro e w5 ⟨rfl, hr, hk⟩
        have RD5 := hd hr
        have RX5 := hd (HRX.out.keepO hk (by have := R3.out; omega) (by have := R3.out; omega))
        have PI5 := hd (HPI.out.keepO hk (fun b hb e => by have := R3.out; omega))
        have PX5 := hd (HPX.out.keepO hk (by have := R3.out; omega))
        have PB5 := hd (HPB.out.trans (hk.below _ HPN.out (fun i hi e => by have := R3.out; have e' : i = rb := e; omega)))
        have PN5 := hd (Nat.le_trans HPN.out hk.size)
        clear hr hk
        go_wp2_with fail
        refine (UX_is RX5.out U2.out).mono ?_
        rintro e w6 ⟨rfl, hr, hk⟩
        have RX := hd hr
        have RD := hd (RD5.out.keepO hk (by have := R3.out; omega) (by have := R3.out; omega))
        have PI := hd (PI5.out.keepO hk (fun b hb e => by have := R3.out; omega))
        have PX := hd (PX5.out.keepO hk (by have := R3.out; omega))
        have PB := hd (PB5.out.trans (hk.below _ PN5.out (fun i hi e => by have := R3.out; have e' : i = xb := e; omega)))
        have PN := hd (Nat.le_trans PN5.out hk.size)
        clear hr hk RD5 RX5 PI5 PX5 PB5 PN5 HRD HRX HAG HPI HPX HPB HPN U1 U2
        obtain ⟨mm, hm⟩ : ∃ m, leftOf l1 e1 = m := ⟨_, rfl⟩
        have ML := hd hm
        have MX := hd ((left_same l1 lx1 e1 AG.out).trans hm)
        clear hm
        go_wp2_with fail
        have hcE := RX.out.err
        go_quiet (first
          | (go_at_call 31; exact Calls.quiet_of_same (Err_any (RD.out.drewN _)))
          | (go_at_call 32; exact Calls.quiet_of_same (Left_val (RD.out.drewN _) mm ML.out))
          | (go_at_call 33; exact Calls.quiet_of_same (LeftX_val (RX.out.drewN _) mm MX.out))
          | (go_at_call 15; exact Calls.quiet_of (eq_true (Bs.drewN PI.out _) (Bx.drewN PX.out _))))
        go_wp2
        go_roundw
        case rel => exact ⟨k + 1, by go_num, by omega, by omega, ⟨⟨_, _, _, RD.out.drewN nq, RX.out.drewN nq, AG.out⟩, Bs.drewN PI.out nq, Bx.drewN PX.out nq, below_drewN PB.out nq, PN.out⟩⟩
        case measure => simp [intOf]; omega
      · rw [h6]
        clear h6
        obtain ⟨n1, l1, lx1, e1, hu1, hu2, hag⟩ := u_both 18014398509481982 l lx e0 HAG.out
        have UB := hd (u_bd hu1 (by omega) HRD.out.byt)
        have U1 := hd hu1
        have U2 := hd hu2
        have AG := hd hag
        clear hu1 hu2 hag
        go_wp2_with fail
        refine (RS_is HRD.out n1 U1.out).mono ?_
        rintro e w5 ⟨rfl, hr, hk⟩
        have RD5 := hd hr
        have RX5 := hd (HRX.out.keepO hk (by have := R3.out; omega) (by have := R3.out; omega))
        have PI5 := hd (HPI.out.keepO hk (fun b hb e => by have := R3.out; omega))
        have PX5 := hd (HPX.out.keepO hk (by have := R3.out; omega))
        have PB5 := hd (HPB.out.trans (hk.below _ HPN.out (fun i hi e => by have := R3.out; have e' : i = rb := e; omega)))
        have PN5 := hd (Nat.le_trans HPN.out hk.size)
        clear hr hk
        go_wp2_with fail
        refine (SX_is RX5.out U2.out UB.out.1 UB.out.2).mono ?_
        rintro e w6 ⟨rfl, hr, hk⟩
        have RX := hd hr
        have RD := hd (RD5.out.keepO hk (by have := R3.out; omega) (by have := R3.out; omega))
        have PI := hd (PI5.out.keepO hk (fun b hb e => by have := R3.out; omega))
        have PX := hd (PX5.out.keepO hk (by have := R3.out; omega))
        have PB := hd (PB5.out.trans (hk.below _ PN5.out (fun i hi e => by have := R3.out; have e' : i = xb := e; omega)))
        have PN := hd (Nat.le_trans PN5.out hk.size)
        clear hr hk RD5 RX5 PI5 PX5 PB5 PN5 HRD HRX HAG HPI HPX HPB HPN U1 U2 UB
        obtain ⟨mm, hm⟩ : ∃ m, leftOf l1 e1 = m := ⟨_, rfl⟩
        have ML := hd hm
        have MX := hd ((left_same l1 lx1 e1 AG.out).trans hm)
        clear hm
        go_wp2_with fail
        have hcE := RX.out.err
        go_quiet (first
          | (go_at_call 31; exact Calls.quiet_of_same (Err_any (RD.out.drewN _)))
          | (go_at_call 32; exact Calls.quiet_of_same (Left_val (RD.out.drewN _) mm ML.out))
          | (go_at_call 33; exact Calls.quiet_of_same (LeftX_val (RX.out.drewN _) mm MX.out))
          | (go_at_call 15; exact Calls.quiet_of (eq_true (Bs.drewN PI.out _) (Bx.drewN PX.out _))))
        go_wp2
        go_roundw
        case rel => exact ⟨k + 1, by go_num, by omega, by omega, ⟨⟨_, _, _, RD.out.drewN nq, RX.out.drewN nq, AG.out⟩, Bs.drewN PI.out nq, Bx.drewN PX.out nq, below_drewN PB.out nq, PN.out⟩⟩
        case measure => simp [intOf]; omega
      · rw [h6]
        clear h6
        generalize wrap64 (z.tdiv 6) = n
        obtain ⟨bs, l1, lx1, e1, hu1, hu2, hag⟩ := text_both n l lx e0 HAG.out
        obtain ⟨s, hs⟩ : ∃ s, strOfNums bs = s := ⟨_, rfl⟩
        have S1 := hd hs
        have U1 := hd hu1
        have U2 := hd hu2
        have AG := hd hag
        clear hu1 hu2 hag hs
        go_wp2_with fail
        refine (RText_is HRD.out n U1.out s S1.out).mono ?_
        rintro e w5 ⟨rfl, hr, hk⟩
        have RD5 := hd hr
        have RX5 := hd (HRX.out.keepO hk (by have := R3.out; omega) (by have := R3.out; omega))
        have PI5 := hd (HPI.out.keepO hk (fun b hb e => by have := R3.out; omega))
        have PX5 := hd (HPX.out.keepO hk (by have := R3.out; omega))
        have PB5 := hd (HPB.out.trans (hk.below _ HPN.out (fun i hi e => by have := R3.out; have e' : i = rb := e; omega)))
        have PN5 := hd (Nat.le_trans HPN.out hk.size)
        clear hr hk
        go_wp2_with fail
        refine (XText_is RX5.out n U2.out s S1.out).mono ?_
        rintro e w6 ⟨rfl, hr, hk⟩
        have RX := hd hr
        have RD := hd (RD5.out.keepO hk (by have := R3.out; omega) (by have := R3.out; omega))
        have PI := hd (PI5.out.keepO hk (fun b hb e => by have := R3.out; omega))
        have PX := hd (PX5.out.keepO hk (by have := R3.out; omega))
        have PB := hd (PB5.out.trans (hk.below _ PN5.out (fun i hi e => by have := R3.out; have e' : i = xb := e; omega)))
        have PN := hd (Nat.le_trans PN5.out hk.size)
        clear hr hk RD5 RX5 PI5 PX5 PB5 PN5 HRD HRX HAG HPI HPX HPB HPN U1 U2 S1
        obtain ⟨mm, hm⟩ : ∃ m, leftOf l1 e1 = m := ⟨_, rfl⟩
        have ML := hd hm
        have MX := hd ((left_same l1 lx1 e1 AG.out).trans hm)
        clear hm
        go_wp2_with fail
        have hcE := RX.out.err
        go_quiet (first
          | (go_at_call 31; exact Calls.quiet_of_same (Err_any (RD.out.drewN _)))
          | (go_at_call 32; exact Calls.quiet_of_same (Left_val (RD.out.drewN _) mm ML.out))
          | (go_at_call 33; exact Calls.quiet_of_same (LeftX_val (RX.out.drewN _) mm MX.out))
          | (go_at_call 15; exact Calls.quiet_of (eq_true (Bs.drewN PI.out _) (Bx.drewN PX.out _))))
        go_wp2
        go_roundw
        case rel => exact ⟨k + 1, by go_num, by omega, by omega, ⟨⟨_, _, _, RD.out.drewN nq, RX.out.drewN nq, AG.out⟩, Bs.drewN PI.out nq, Bx.drewN PX.out nq, below_drewN PB.out nq, PN.out⟩⟩
        case measure => simp [intOf]; omega
      · rw [h6]
        clear h6
        generalize wrap64 (z.tdiv 6) = n
        obtain ⟨bs, l1, lx1, e1, hu1, hu2, hag⟩ := raw_both n l lx e0 HAG.out
        obtain ⟨m, hm⟩ : ∃ m, bs.length = m := ⟨_, rfl⟩
        have M1 := hd hm
        have U1 := hd hu1
        have U2 := hd hu2
        have AG := hd hag
        clear hu1 hu2 hag hm
        go_wp2_with fail
        refine (Raw_is HRD.out n U1.out M1.out).mono ?_
        rintro e w5 ⟨ca, cc, rfl, hbs, hfr, hr, hk⟩
        have RD5 := hd hr
        have RX5 := hd (HRX.out.keepO hk (by have := R3.out; omega) (by have := R3.out; omega))
        have PI5 := hd (HPI.out.keepO hk (fun b hb e => by have := R3.out; omega))
        have PX5 := hd (HPX.out.keepO hk (by have := R3.out; omega))
        have PB5 := hd (HPB.out.trans (hk.below _ HPN.out (fun i hi e => by have := R3.out; have e' : i = rb := e; omega)))
        have PN5 := hd (Nat.le_trans HPN.out hk.size)
        have XC : Hid (xb < w4.heap.size) := HRX.out.lt
        have C5 := hd hbs
        have F5 := hd hfr
        clear hr hk hbs hfr
        go_wp2_with fail
        refine (RawX_is RX5.out n U2.out M1.out).mono ?_
        rintro e w6 ⟨xa, xc, rfl, hxs, hr, hk⟩
        have RX := hd hr
        have RD := hd (RD5.out.keepO hk (by have := R3.out; omega) (by have := R3.out; omega))
        have PI := hd (PI5.out.keepO hk (fun b hb e => by have := R3.out; omega))
        have PX := hd (PX5.out.keepO hk (by have := R3.out; omega))
        have PB := hd (PB5.out.trans (hk.below _ PN5.out (fun i hi e => by have := R3.out; have e' : i = xb := e; omega)))
        have PN := hd (Nat.le_trans PN5.out hk.size)
        have C6 := hd (C5.out.keepO hk (fun b hb e => by have := XC.out; omega))
        have F6 := hd (F5.out.keep C5.out hk (fun b _ hb e => by have e' : b = xb := e; have := XC.out; omega))
        have X6 := hd hxs
        clear hxs C5 F5
        clear hr hk RD5 RX5 PI5 PX5 PB5 PN5 HRD HRX HAG HPI HPX HPB HPN U1 U2
        obtain ⟨mm, hm⟩ : ∃ m, leftOf l1 e1 = m := ⟨_, rfl⟩
        have ML := hd hm
        have MX := hd ((left_same l1 lx1 e1 AG.out).trans hm)
        clear hm
        go_wp2_with fail
        refine (eq_same C6.out X6.out).mono ?_
        rintro e w7 ⟨rfl, dm, rfl⟩
        have RD7 := hd (RD.out.drewN dm)
        have RX7 := hd (RX.out.drewN dm)
        have PI7 := hd (Bs.drewN PI.out dm)
        have PX7 := hd (Bx.drewN PX.out dm)
        have PB7 := hd (below_drewN PB.out dm)
        have PN7 : Hid (w.heap.size ≤ (w6.drewN dm).heap.size) := PN.out
        have C7 := hd (Bs.drewN C6.out dm)
        have F7 : Hid (Fr (w6.drewN dm) (.slice ca m cc) m) := F6.out
        clear RD RX PI PX PB PN C6 F6 X6
        generalize w6.drewN dm = w7 at *
        by_cases h0 : m = 0
        · subst h0
          have RD := RD7
          have RX := RX7
          have PI := PI7
          have PX := PX7
          have PB := PB7
          have PN := PN7
          clear RD7 RX7 PI7 PX7 PB7 PN7 C7 F7
          go_wp2_with fail
          refine wp_loop_rounds 1 ?_
          rw [rounds_succ]
          go_wp2_with fail
          have hcE := RX.out.err
          go_quiet (first
            | (go_at_call 31; exact Calls.quiet_of_same (Err_any (RD.out.drewN _)))
            | (go_at_call 32; exact Calls.quiet_of_same (Left_val (RD.out.drewN _) mm ML.out))
            | (go_at_call 33; exact Calls.quiet_of_same (LeftX_val (RX.out.drewN _) mm MX.out))
            | (go_at_call 15; exact Calls.quiet_of (eq_true (Bs.drewN PI.out _) (Bx.drewN PX.out _))))
          go_wp2
          go_roundw
          case rel => exact ⟨k + 1, by go_num, by omega, by omega, ⟨⟨_, _, _, RD.out.drewN nq, RX.out.drewN nq, AG.out⟩, Bs.drewN PI.out nq, Bx.drewN PX.out nq, below_drewN PB.out nq, PN.out⟩⟩
          case measure => simp [intOf]; omega
        · obtain ⟨cb, off, rfl, hcc, hmm, hcb, hci⟩ := CInv.start C7.out M1.out F7.out (by omega)
          have CI := hd hci
          have XB : Hid (xb < cb) := Nat.lt_of_lt_of_le XC.out hcb
          clear hci hcb C7 F7
          go_wp2_with fail
          go_loopw [12] (fun i wq => ∃ j : Nat, i = .int .i64 j ∧ j ≤ m ∧ CInv cb off m w7 wq) (fun i _ => m - (intOf i).toNat)
          case atStart => exact ⟨0, rfl, by omega, CI.out⟩
          case round =>
            obtain ⟨j, rfl, hj, hci⟩ := hrel
            have CJ := hd hci
            clear hci CI
            by_cases hjm : j < m
            · have hjm' : (j : Int) < (m : Int) := by omega
              obtain ⟨y, hy⟩ := CJ.out.cells j hjm
              have hfz := CJ.out.free j hjm
              go_wp2_with fail
              go_roundw
              case rel => exact ⟨j + 1, by go_num, by omega, CJ.out.set j hjm _⟩
              case measure => simp [intOf]; omega
            · have hjj : j = m := by omega
              subst hjj
              have RD := hd (RD7.out.keepO CJ.out.kp (by have := R3.out; have := XB.out; omega) (by have := R3.out; omega))
              have RX := hd (RX7.out.keepO CJ.out.kp (by have := R3.out; have := XB.out; omega) (by have := R3.out; omega))
              have PI := hd (PI7.out.keepO CJ.out.kp (fun b hb e => by have := R3.out; have := XB.out; omega))
              have PX := hd (PX7.out.keepO CJ.out.kp (by have := R3.out; have := XB.out; omega))
              have PB := hd (PB7.out.trans (CJ.out.kp.below _ PN7.out (fun i hi e => by have := R3.out; have := XB.out; have e' : i = cb := e; omega)))
              have PN := hd (Nat.le_trans PN7.out CJ.out.kp.size)
              clear CJ RD7 RX7 PI7 PX7 PB7 PN7
              go_wp2_with fail
              have hcE := RX.out.err
              go_quiet (first
                | (go_at_call 31; exact Calls.quiet_of_same (Err_any (RD.out.drewN _)))
                | (go_at_call 32; exact Calls.quiet_of_same (Left_val (RD.out.drewN _) mm ML.out))
                | (go_at_call 33; exact Calls.quiet_of_same (LeftX_val (RX.out.drewN _) mm MX.out))
                | (go_at_call 15; exact Calls.quiet_of (eq_true (Bs.drewN PI.out _) (Bx.drewN PX.out _))))
              go_wp2
              go_roundw
              case rel => exact ⟨k + 1, by go_num, by omega, by omega, ⟨⟨_, _, _, RD.out.drewN nq, RX.out.drewN nq, AG.out⟩, Bs.drewN PI.out nq, Bx.drewN PX.out nq, below_drewN PB.out nq, PN.out⟩⟩
              case measure => simp [intOf]; omega
      · rw [h6]
        clear h6
        generalize wrap64 (z.tdiv 6) = n
        obtain ⟨l1, e2, hf1, hf2, hag⟩ := fail_both l lx e0 (n.tmod 10) HAG.out
        have F1 := hd hf1
        have F2 := hd hf2
        have AG := hd hag
        clear hf1 hf2 hag
        go_wp2_with fail
        refine (Fail_is HRD.out F1.out F2.out).mono ?_
        rintro e w5 ⟨rfl, hr, hk⟩
        have RD5 := hd hr
        have RX5 := hd (HRX.out.keepO hk (by have := R3.out; omega) (by have := R3.out; omega))
        have PI5 := hd (HPI.out.keepO hk (fun b hb e => by have := R3.out; omega))
        have PX5 := hd (HPX.out.keepO hk (by have := R3.out; omega))
        have PB5 := hd (HPB.out.trans (hk.below _ HPN.out (fun i hi e => by have := R3.out; have e' : i = rb := e; omega)))
        have PN5 := hd (Nat.le_trans HPN.out hk.size)
        clear hr hk
        go_wp2_with fail
        refine (FailX_is RX5.out F2.out).mono ?_
        rintro e w6 ⟨rfl, hr, hk⟩
        have RX := hd hr
        have RD := hd (RD5.out.keepO hk (by have := R3.out; omega) (by have := R3.out; omega))
        have PI := hd (PI5.out.keepO hk (fun b hb e => by have := R3.out; omega))
        have PX := hd (PX5.out.keepO hk (by have := R3.out; omega))
        have PB := hd (PB5.out.trans (hk.below _ PN5.out (fun i hi e => by have := R3.out; have e' : i = xb := e; omega)))
        have PN := hd (Nat.le_trans PN5.out hk.size)
        clear hr hk RD5 RX5 PI5 PX5 PB5 PN5 HRD HRX HAG HPI HPX HPB HPN F1 F2
        obtain ⟨mm, hm⟩ : ∃ m, leftOf l1 e2 = m := ⟨_, rfl⟩
        have ML := hd hm
        have MX := hd ((left_same l1 lx e2 AG.out).trans hm)
        clear hm
        go_wp2_with fail
        have hcE := RX.out.err
        go_quiet (first
          | (go_at_call 31; exact Calls.quiet_of_same (Err_any (RD.out.drewN _)))
          | (go_at_call 32; exact Calls.quiet_of_same (Left_val (RD.out.drewN _) mm ML.out))
          | (go_at_call 33; exact Calls.quiet_of_same (LeftX_val (RX.out.drewN _) mm MX.out))
          | (go_at_call 15; exact Calls.quiet_of (eq_true (Bs.drewN PI.out _) (Bx.drewN PX.out _))))
        go_wp2
        go_roundw
        case rel => exact ⟨k + 1, by go_num, by omega, by omega, ⟨⟨_, _, _, RD.out.drewN nq, RX.out.drewN nq, AG.out⟩, Bs.drewN PI.out nq, Bx.drewN PX.out nq, below_drewN PB.out nq, PN.out⟩⟩
        case measure => simp [intOf]; omega
    · have hkk : k = lw ∨ (k = 40 ∧ 40 < lw) := by omega
      rcases hkk with hkk | ⟨hkk, hlt⟩
      · subst hkk
        go_wp2_with fail
        refine (works_true _).mono ?_
        rintro e w9 ⟨rfl, hk⟩
        have PB := hd (HI.out.2.2.2.1.trans (hk.mono HI.out.2.2.2.2))
        clear hk
        go_wp2_with fail
        go_ret
        exact ⟨rfl, PB.out⟩
      · subst hkk
        have hlt' : (40 : Int) < (lw : Int) := by omega
        go_wp2_with fail
        refine (works_true _).mono ?_
        rintro e w9 ⟨rfl, hk⟩
        have PB := hd (HI.out.2.2.2.1.trans (hk.mono HI.out.2.2.2.2))
        clear hk
        go_wp2_with fail
        go_ret
        exact ⟨rfl, PB.out⟩

set_option maxRecDepth 100000 in
set_option maxHeartbeats 8000000 in
theorem walk1 (a : Option Addr) (len cap : Nat) (lb : List Int) (aw : Option Addr) (cw : Nat) (w : World) (hx : Bx w.heap.size w (.slice a len cap) lb) (hlen : lb.length = len) (hb : len ≤ 140737488351232) :
    Calls Try.prog 4 #[.slice a len cap, .slice aw 0 cw] w fun e w' => TrueEnd w e w' := by
  have HX := hd hx
  have HL := hd hlen
  clear hx hlen
  go_enter Try.func4, Try.ntmps4
  go_wp2_with fail
  refine (copy_bx HX.out).mono ?_
  rintro e w1 ⟨ain, cin, rfl, hbs, hf, hk⟩
  rw [HL.out] at hbs ⊢
  have B1 := hd hk
  have X1 := hd (HX.out.keep hk)
  have P1 := hd hbs
  clear hbs hf hk HX
  go_wp2_with fail
  refine (New_any P1.out).mono ?_
  rintro e w2 ⟨rb, rfl, hrb, hr, hk⟩
  have B2 := hd (below_below B1.out hk)
  have X2 := hd (X1.out.keep hk)
  clear hrb hr hk B1 X1 P1
  go_wp2_with fail
  refine (NewX_of (copy_bx X2.out)).mono ?_
  rintro e w3 ⟨xb, rfl, hxb, hr, hk⟩
  have B3 := hd (below_below B2.out hk)
  clear hxb hr hk B2 X2
  go_wp2_with fail
  refine wp_loop_rounds 1 ?_
  rw [rounds_succ]
  go_wp2_with fail
  refine (works_true _).mono ?_
  rintro e w9 ⟨rfl, hk⟩
  have PB := hd (below_below B3.out hk)
  clear hk
  go_wp2_with fail
  go_ret
  exact ⟨rfl, PB.out⟩

theorem walk (a : Option Addr) (len cap : Nat) (zs : List Int) (aw : Option Addr) (lw cw : Nat) (ys : List Int) (W : World) (h : IsRow .u8 W a len cap zs) (g : IsRow .i64 W aw lw cw ys) :
    Calls Try.prog 4 #[.slice a len cap, .slice aw lw cw] W fun e w' => e = .returned (.bool true) ∧ Below W.heap.size W w' := by
  obtain ⟨hx, hlen, hb, _⟩ := IsRow.bx h
  by_cases h0 : lw = 0
  · subst h0
    exact walk1 a len cap _ aw cw W hx hlen hb
  · rcases g with ⟨_, q, _, _⟩ | ⟨x, rfl, hl, hm, hz, hcell, hwz⟩
    · exact absurd q h0
    · obtain ⟨b, off, spot⟩ := x
      have hc := hcell 0 (by omega)
      have hspot : spot = none := by simpa [Addr.add] using World.cell?_spot hc
      subst hspot
      have hlt : b < W.heap.size := by
        have h2 : W.cell? ⟨b, off, none⟩ = some (.int .i64 (ys.getD 0 0)) := by simpa [Addr.add] using hc
        exact World.block_lt_of_cell? W ⟨b, off, none⟩ h2
      refine walk0 a len cap _ b off lw cw ys W hx hlen hb (fun i hi => ?_) hlt (by omega) (fun i => ?_)
      · have h3 := hcell i (by omega)
        rw [Addr.add_lit] at h3
        rw [h3]
      · have h4 := range_i64 hwz i
        simpa using h4

theorem own : ownKnob Try.prog.godebug = none := by kernel_rfl
theorem laidOut : laidOutB Try.prog = true := by kernel_rfl
theorem bytes5 : Try.prog.bytesOf 5 = 1 := by kernel_rfl
theorem bytes3 : Try.prog.bytesOf 3 = 8 := by kernel_rfl

set_option maxRecDepth 100000 in
theorem lifted (os : Os) (started : os.Started) (H : Type) (enc : TypeId × Value → H) :
    ReturnsInHanded {} Try.checked os 4 .any (Rows.digitsReadSpec.pre6 enc Try.prog Try.f4 Rows.digitsReadRow.domain false) (Rows.digitsReadSpec.post enc Try.prog Try.f4 false true false false) := by
  refine returnsInHanded_of_change_sized (C := Try.checked) own started (by kernel_rfl) Try.func4
    (ChangeSpec.witness6 (enc := enc) (C := Try.checked) false ⟨#[], #[.slice none 0 0, .slice none 0 0], []⟩ 8 (by kernel_rfl) (by kernel_rfl) (by kernel_rfl) (by kernel_rfl)) ?_
  intro W base args ds gs before hval0 hW hcnd hsz0 _
  have hsz : (DataW.weightsEach Try.prog (Try.f4.params.toList ++ Rows.digitsReadSpec.plain.varTypes Try.prog) (ds ++ gs)).all (· ≤ reachBytes) = true := hsz0
  have hval : ∀ (j : Nat) t v, Try.f4.params[j]? = some t → args[j]? = some v → Value.okWide Try.prog W .any base t v := hval0
  have hW' := hW
  obtain ⟨p, q, hA0, hV, rfl, hfz, hnd⟩ := hW
  have hA : DataW.TrodAll enc Try.prog W 0 (fun _ => true) true Try.f4.params.toList args.toList ds p := hA0
  rw [Try.params4] at hA hval hsz
  obtain ⟨v0, vs0, d0, ds0, p0, q0, hargs, rfl, rfl, h0, r0⟩ := trodAll_cons hA
  obtain ⟨v1, vs1, d1, ds1, p1, q1, rfl, rfl, rfl, h1, r1⟩ := trodAll_cons r0
  obtain ⟨rfl, rfl, rfl⟩ := trodAll_nil r1
  obtain rfl : args = #[v0, v1] := by cases args; simp_all
  obtain ⟨rfl, rfl⟩ := trodVars_none hV
  obtain ⟨a0, len0, cap0, rfl⟩ := okWide_slice Try.underlying22 (hval 0 22 v0 rfl rfl)
  have k0 := h0
  have lt0 : ∀ x ∈ p0, x.block < W.heap.size := by obtain ⟨m, hm⟩ := k0; exact DataW.trod_lt m _ _ _ hm
  obtain ⟨z0, w0⟩ : ∃ zs, IsRow .u8 W a0 len0 cap0 zs := by
    obtain ⟨fuel, hf⟩ := h0
    rcases open_ints Try.underlying22 Try.underlying5 (by kernel_rfl) hf with ⟨hcs, _⟩ | ⟨x, l, c, zs, hcs, _, hl, hm, hz, hdx, hcell, hwz⟩
    · simp [Value.cells] at hcs
      obtain ⟨rfl, rfl, rfl⟩ := hcs
      exact ⟨[], .inl ⟨rfl, rfl, rfl, rfl⟩⟩
    · simp [Value.cells] at hcs
      obtain ⟨rfl, rfl, rfl⟩ := hcs
      have hzl : zs.length = cap0 := by simpa using hz
      have hdd : d0 = .slice (lits .u8 (zs.take len0)) (lits .u8 (zs.drop len0)) := congrArg Prod.fst hdx
      have hw := sized_slice hsz (j := 0) (t := 22) (e := 5) rfl (by rw [hdd]; rfl) Try.underlying22
      rw [bytes5] at hw
      simp only [lits, List.length_map, List.length_take, List.length_drop, reachBytes] at hw
      exact ⟨zs, .inr ⟨_, rfl, hl, by omega, hzl, hcell, hwz⟩⟩
  obtain ⟨a1, len1, cap1, rfl⟩ := okWide_slice Try.underlying30 (hval 1 30 v1 rfl rfl)
  have k1 := h1
  have lt1 : ∀ x ∈ p1, x.block < W.heap.size := by obtain ⟨m, hm⟩ := k1; exact DataW.trod_lt m _ _ _ hm
  obtain ⟨z1, w1⟩ : ∃ zs, IsRow .i64 W a1 len1 cap1 zs := by
    obtain ⟨fuel, hf⟩ := h1
    rcases open_ints Try.underlying30 Try.underlying3 (by kernel_rfl) hf with ⟨hcs, _⟩ | ⟨x, l, c, zs, hcs, _, hl, hm, hz, hdx, hcell, hwz⟩
    · simp [Value.cells] at hcs
      obtain ⟨rfl, rfl, rfl⟩ := hcs
      exact ⟨[], .inl ⟨rfl, rfl, rfl, rfl⟩⟩
    · simp [Value.cells] at hcs
      obtain ⟨rfl, rfl, rfl⟩ := hcs
      have hzl : zs.length = cap1 := by simpa using hz
      have hdd : d1 = .slice (lits .i64 (zs.take len1)) (lits .i64 (zs.drop len1)) := congrArg Prod.fst hdx
      have hw := sized_slice hsz (j := 1) (t := 30) (e := 3) rfl (by rw [hdd]; rfl) Try.underlying30
      rw [bytes3] at hw
      simp only [lits, List.length_map, List.length_take, List.length_drop, reachBytes] at hw
      exact ⟨zs, .inr ⟨_, rfl, hl, by omega, hzl, hcell, hwz⟩⟩
  clear hA0 hval0
  refine (walk a0 len0 cap0 z0 a1 len1 cap1 z1 W w0 w1).mono fun e W' ⟨he, bel⟩ => ?_
  subst he
  exact ⟨_, rfl, _, _, _, [], _, [], hW', trodAll_mk1 (shut_bool Try.underlying4 _), (trodAll_cons_mk (Below.trod laidOut (by kernel_rfl) (of_decide_eq_true (by kernel_rfl)) k0 bel lt0) (trodAll_cons_mk (Below.trod laidOut (by kernel_rfl) (of_decide_eq_true (by kernel_rfl)) k1 bel lt1) trodAll_mk0)), rfl, bel.frame _, fun h => by cases h⟩

theorem over : Rows.digitsReadRow.holds Try.pinned (OpenSpec.ofChange Rows.digitsReadSpec) :=
  OpenClaim.holds_of_wide 4 Try.f4 rfl rfl rfl rfl rfl rfl rfl ⟨rfl, rfl, rfl, rfl, rfl⟩ rfl rfl rfl rfl rfl (by kernel_rfl) Try.func4 (by kernel_rfl)
    (of_decide_eq_true (by kernel_rfl)) (by unfold Func.isWrapper; first | (rw [if_pos (by decide +kernel)]; kernel_rfl) | (rw [if_neg (by decide +kernel)]; exact ⟨rfl, rfl⟩))
    (fun os started H enc _ => lifted os started H enc)

end Go.Proofs.Ytdjpdllgifdhaaa.digitsRead
namespace Go.Proofs.Ytdjpdllgifdhaaa

/-- The statement. -/
theorem digitsRead_proved : Rows.DigitsReadSaid := digitsRead.over
#print axioms digitsRead_proved
end Go.Proofs.Ytdjpdllgifdhaaa
