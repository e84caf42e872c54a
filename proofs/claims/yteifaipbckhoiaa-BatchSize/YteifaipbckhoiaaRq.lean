/- The document's Parse. The document's Copy. The chapter's batch; its example holds: works answers true. -/
import Derived.Test.YteifaipbckhoiaaTb
import Derived.Test.YteifaipbckhoiaaRd
import Derived.Test.YteifaipbckhoiaaTky
import Derived.Test.YteifaipbckhoiaaPn
import Derived.Deep.Cut
import Derived.Test.YteifaipbckhoiaaOb
import Derived.Test.YteifaipbckhoiaaSq
import Derived.Test.YteifaipbckhoiaaIs
import Derived.Test.YteifaipbckhoiaaVs
namespace Go.Proofs.Yteifaipbckhoiaa
open Go.RowKit
variable {RB XB : Nat}
set_option linter.unusedVariables false

theorem Rx.byt {w : World} {xb : Nat} {l : List Int} {e : Int} (h : Rx XB w xb l e) : Byt l := by
  obtain ⟨v, _, h3⟩ := h.left
  exact h3.1
theorem OwB.kpx {B rb : Nat} {w w' : World} {c : Value} {qs : List SpanV} (h : OwB B w c qs) (k : Kp (fun b => b = rb) w w') (h1 : ∀ g, c.ownBlock = some g → g ≠ rb) (h2 : ∀ q ∈ qs, ∀ g, q.2.ownBlock = some g → g ≠ rb) : OwB B w' c qs :=
  ⟨h.own.grown (row := some rb) ⟨k.os, k.tape, k.output, k.size, fun i hi hn => k.block i hi (fun e => hn (by rw [e]))⟩ (by
    cases hv : c.ownBlock with
    | none => exact Or.inl rfl
    | some g => exact Or.inr fun e => h1 g hv (Option.some.inj e)), fun q hq => (h.ats q hq).kp k (h2 q hq), h.sep, h.pw⟩
theorem xRdN_err (n : Nat) (l : List Int) {e : Int} (h : e ≠ 0) : xRdN n l e = ([], l, e) := by
  cases n with
  | zero => rfl
  | succ n => unfold xRdN; rw [if_pos h]
theorem xRdN_succ (n : Nat) (l : List Int) : xRdN (n + 1) l 0 = ((xRdS l 0).1 :: (xRdN n (xRdS l 0).2.1 (xRdS l 0).2.2).1, (xRdN n (xRdS l 0).2.1 (xRdS l 0).2.2).2) := by
  show (if (0 : Int) ≠ 0 then _ else _) = _
  rw [if_neg (by simp)]
theorem xRdN_wf {n : Nat} {l l' : List Int} {e : Int} {xs : List SpanD} (hl : Byt l) (h : xRdN n l e = (xs, l', 0)) : ∀ s ∈ xs, WfS s := by
  obtain ⟨s, l1, lx, e', h1, h2, h3⟩ := rdN_agree n l l e (fun _ => rfl)
  rw [h] at h2
  simp only [Prod.mk.injEq] at h2
  obtain ⟨rfl, rfl, rfl⟩ := h2
  exact fun s hs => ((rdN_was n hl h1).2.2.1 s hs).wf

set_option maxRecDepth 100000 in
set_option maxHeartbeats 16000000 in
theorem rparseB_is {N0 : Nat} {w : World} {v : Value} {l : List Int} (h : Bx N0 w v l) (hl : Byt l) :
    Calls Try.prog 22 #[v] w fun e w' => ParB w (parseB l) e w' := by
  obtain ⟨vx, vc, rfl⟩ := h.len
  have hp := xParse_same hl
  obtain ⟨o, ho⟩ : ∃ o, parseB l = o := ⟨_, rfl⟩
  rw [ho] at hp ⊢
  clear ho
  obtain ⟨ag, l1, e1, q1⟩ : ∃ k z y, xStep 9007199254740991 l 0 = (k, z, y) := ⟨_, _, _, rfl⟩
  obtain ⟨sq, l2, e2, q2⟩ : ∃ k z y, xStep 9007199254740991 l1 e1 = (k, z, y) := ⟨_, _, _, rfl⟩
  obtain ⟨n, l3, e3, q3⟩ : ∃ k z y, xStep 9007199254740991 l2 e2 = (k, z, y) := ⟨_, _, _, rfl⟩
  unfold xParse at hp
  simp only [q1, q2, q3] at hp
  have HP := hd hp
  have hb2 := x_byt (x_byt hl q1) q2
  have HB3 := hd (x_byt hb2 q3)
  have HRG := hd (x_rng (by decide) hb2 q3)
  have HAG := hd (x_rng (by decide) hl q1)
  have HSQ := hd (x_rng (by decide) (x_byt hl q1) q2)
  have HL := hd hl
  have Q1 := hd q1; have Q2 := hd q2; have Q3 := hd q3
  have H := hd h
  obtain ⟨vn, hvn⟩ : ∃ n, l.length = n := ⟨_, rfl⟩
  rw [hvn] at H ⊢
  clear hp hl hb2 h q1 q2 q3
  have fin : ∀ (W W' : World) (ag sq : Int) (c : Value) (qs : List SpanV) (z : Int), Below w.heap.size w W → Bk W w.heap.size 24 #[Value.int IntKind.i64 0, Value.int IntKind.i64 0, Value.slice none 0 0] → OwB (w.heap.size + 1) W c qs → ag = (o.getD zeroB).ag → sq = (o.getD zeroB).sq → spd qs = (o.getD zeroB).sp → z = (if o.isSome then 0 else 90) →
      W' = ((W.setCell ⟨w.heap.size, 0, none⟩ (.int .i64 ag)).setCell ⟨w.heap.size, 1, none⟩ (.int .i64 sq)).setCell ⟨w.heap.size, 2, none⟩ c →
      Bk W' w.heap.size 24 #[.int .i64 ag, .int .i64 sq, c] ∧ ParB w o (.returned (.tuple #[.agg #[.int .i64 ag, .int .i64 sq, c], .int .i64 z])) W' := by
    rintro W W' ag sq c qs z hb hk hq rfl rfl hs rfl rfl
    have kz : Kp (fun b => b = w.heap.size) W (((W.setCell ⟨w.heap.size, 0, none⟩ (.int .i64 (o.getD zeroB).ag)).setCell ⟨w.heap.size, 1, none⟩ (.int .i64 (o.getD zeroB).sq)).setCell ⟨w.heap.size, 2, none⟩ c) := ((kp_set1 W w.heap.size 0 _).setCell ⟨w.heap.size, 1, none⟩ _ (fun _ => rfl)).setCell ⟨w.heap.size, 2, none⟩ c (fun _ => rfl)
    exact ⟨hk.set3 _ _ _, c, qs, rfl, hs, (hq.kp kz (by omega)).lower (by omega), hb.trans (kz.below w.heap.size hb.size (fun k hk e => by omega))⟩
  have FIN := hd fin
  clear fin
  have NB := below1 w (Obj.cells #[Value.int IntKind.i64 0, Value.int IntKind.i64 0, Value.slice none 0 0] 24)
  have Z0 := hd (Bk.new w 24 #[Value.int IntKind.i64 0, Value.int IntKind.i64 0, Value.slice none 0 0])
  have B0 := hd NB
  have H0 := hd (H.out.keep NB)
  clear NB
  go_enter Try.func22, Try.ntmps22
  go_wp2_with fail
  generalize w.alloc (Obj.cells #[Value.int IntKind.i64 0, Value.int IntKind.i64 0, Value.slice none 0 0] 24) = W0 at *
  refine (NewX_of (copy_bx H0.out)).mono ?_
  rintro e w1 ⟨xb, rfl, hle, hr1, hk1⟩
  have Z1 := hd (Z0.out.keep hk1)
  have B1 := hd (below_below B0.out hk1)
  have HLE := hd hle
  have HXB : Hid (w.heap.size < xb) := hd (by have := Z0.out.lt; omega)
  have R1 := hd hr1
  clear hle hr1 hk1 Z0 B0 H0
  go_wp2_with fail
  refine (UX_is R1.out Q1.out).mono ?_
  rintro e w2 ⟨rfl, hr2, hk2⟩
  have Z2 := hd (hk2.bk Z1.out (by have := HXB.out; omega))
  have B2 := hd (B1.out.trans (hk2.below w.heap.size B1.out.size (fun k hk e => by have := HXB.out; omega)))
  have R2 := hd hr2
  clear hr2 hk2 Z1 B1 R1
  go_wp2_with fail
  refine (UX_is R2.out Q2.out).mono ?_
  rintro e w3 ⟨rfl, hr3, hk3⟩
  have Z3 := hd (hk3.bk Z2.out (by have := HXB.out; omega))
  have B3 := hd (B2.out.trans (hk3.below w.heap.size B2.out.size (fun k hk e => by have := HXB.out; omega)))
  have R3 := hd hr3
  clear hr3 hk3 Z2 B2 R2
  go_wp2_with fail
  have NB := below1 w3 (Obj.cells #[Value.int IntKind.i64 ag, Value.int IntKind.i64 sq, Value.slice none 0 0] 24)
  have A4 := hd (Bk.new w3 24 #[Value.int IntKind.i64 ag, Value.int IntKind.i64 sq, Value.slice none 0 0])
  have Z4 := hd (Z3.out.keep NB)
  have B4 := hd (below_below B3.out NB)
  have R4 := hd (R3.out.keepB NB)
  have HGX : Hid (xb < w3.heap.size) := hd R3.out.lt
  clear NB Z3 B3 R3
  generalize w3.alloc (Obj.cells #[Value.int IntKind.i64 ag, Value.int IntKind.i64 sq, Value.slice none 0 0] 24) = w4 at *
  obtain ⟨g, hg⟩ : ∃ g, w3.heap.size = g := ⟨_, rfl⟩
  rw [hg] at A4 HGX ⊢
  clear hg
  refine (UX_is R4.out Q3.out).mono ?_
  rintro e w5 ⟨rfl, hr5, hk5⟩
  have Z5 := hd (hk5.bk Z4.out (by have := HXB.out; omega))
  have A5 := hd (hk5.bk A4.out (by have := HGX.out; omega))
  have B5 := hd (B4.out.trans (hk5.below w.heap.size B4.out.size (fun k hk e => by have := HXB.out; omega)))
  have R5 := hd hr5
  clear hr5 hk5 Z4 A4 B4 R4
  by_cases h16 : 16 < n
  · have hp := HP.out
    rw [if_pos h16] at hp
    subst hp
    have z0 := Z5.out.cell 0
    have f0 := Z5.out.fz 0
    have z1 := Z5.out.cell 1
    have f1 := Z5.out.fz 1
    have z2 := Z5.out.cell 2
    have f2 := Z5.out.fz 2
    simp at z0 z1 z2
    go_wp2_with fail
    have hf := FIN.out _ _ 0 0 (.slice none 0 0) [] 90 B5.out Z5.out (OwB.nil _ _) rfl rfl rfl rfl rfl
    refine bodyPost_ret (res_bt rfl _ _ w.heap.size _ rfl hf.1 rfl) rfl ?_
    exact hf.2
  have hp := HP.out
  rw [if_neg h16] at hp
  obtain ⟨N, hN⟩ : ∃ N : Nat, n = (N : Int) := ⟨n.toNat, by have := HRG.out; omega⟩
  have h16' : N ≤ 16 := by omega
  rw [show n.toNat = N by omega] at hp
  have HP2 := hd hp
  have H16 := hd h16'
  subst hN
  have hn16 : ¬ (16 : Int) < (N : Int) := by omega
  clear hp h16 h16' HP
  go_wp2_with fail
  have HST : Hid (∃ c, Bk w5 g 24 #[Value.int IntKind.i64 ag, Value.int IntKind.i64 sq, c] ∧ OwB (g + 1) w5 c []) := hd ⟨_, A5.out, OwB.nil _ _⟩
  go_loopw [7, 8] (fun i _ wr => ∃ (qs : List SpanV) (lk : List Int) (ek : Int) (c : Value), i = .int .i64 (qs.length : Int) ∧ Bk wr w.heap.size 24 #[Value.int IntKind.i64 0, Value.int IntKind.i64 0, Value.slice none 0 0] ∧ Bk wr g 24 #[Value.int IntKind.i64 ag, Value.int IntKind.i64 sq, c] ∧ OwB (g + 1) wr c qs ∧ qs.length ≤ N ∧ Rx W0.heap.size wr xb lk ek ∧ Byt lk ∧ Below w.heap.size w wr ∧ xRdN N l3 e3 = (spd qs ++ (xRdN (N - qs.length) lk ek).1, (xRdN (N - qs.length) lk ek).2)) (fun i _ _ => N - (intOf i).toNat)
  case atStart => exact ⟨[], l3, e3, _, rfl, Z5.out, A5.out, OwB.nil _ _, Nat.zero_le _, R5.out, HB3.out, B5.out, rfl⟩
  case round =>
    obtain ⟨qs, lk, ek, c, rfl, hz, ha, ho, hqn, hr, hbk, hb, ht⟩ := hrel
    obtain ⟨x0, cap, hv⟩ := ho.form
    obtain ⟨k, hk⟩ : ∃ k, qs.length = k := ⟨_, rfl⟩
    rw [hk] at hv hqn ht ⊢
    subst hv
    have Z6 := hd hz; have A6 := hd ha; have O6 := hd ho; have HQN := hd hqn; have R6 := hd hr; have HBK := hd hbk; have B6 := hd hb; have HTK := hd ht; have HK := hd hk
    have r1 := hr.err
    clear hz ha ho hqn hr hbk hb ht hk Z5 A5 B5 R5 HST
    by_cases hgo : k < N ∧ ek = 0
    · obtain ⟨hlt, hek⟩ := hgo
      subst hek
      have hlz : (k : Int) < (N : Int) := by omega
      obtain ⟨tr, l1', e1', q1⟩ : ∃ k z y, xStep 9007199254740991 lk 0 = (k, z, y) := ⟨_, _, _, rfl⟩
      obtain ⟨sid, l2', e2', q2⟩ : ∃ k z y, xStep 9007199254740991 l1' e1' = (k, z, y) := ⟨_, _, _, rfl⟩
      obtain ⟨pa, l3', e3', q3⟩ : ∃ k z y, xStep 9007199254740991 l2' e2' = (k, z, y) := ⟨_, _, _, rfl⟩
      obtain ⟨st, l4', e4', q4⟩ : ∃ k z y, xStep 9007199254740991 l3' e3' = (k, z, y) := ⟨_, _, _, rfl⟩
      obtain ⟨ln, l5', e5', q5⟩ : ∃ k z y, xStep 9007199254740991 l4' e4' = (k, z, y) := ⟨_, _, _, rfl⟩
      obtain ⟨b6, l6', e6', q6⟩ : ∃ k z y, xText 24 l5' e5' = (k, z, y) := ⟨_, _, _, rfl⟩
      obtain ⟨b7, l7', e7', q7⟩ : ∃ k z y, xText 24 l6' e6' = (k, z, y) := ⟨_, _, _, rfl⟩
      obtain ⟨b8, l8', e8', q8⟩ : ∃ k z y, xText 64 l7' e7' = (k, z, y) := ⟨_, _, _, rfl⟩
      obtain ⟨ats, l9', e9', q9⟩ : ∃ k z y, xTakeAs l8' e8' = (k, z, y) := ⟨_, _, _, rfl⟩
      obtain ⟨sv, s6⟩ : ∃ s, strOfNums b6 = s := ⟨_, rfl⟩
      obtain ⟨op, s7⟩ : ∃ s, strOfNums b7 = s := ⟨_, rfl⟩
      obtain ⟨sb, s8⟩ : ∃ s, strOfNums b8 = s := ⟨_, rfl⟩
      have hs : xRdS lk 0 = (⟨tr, sid, pa, st, ln, sv, op, sb, ats⟩, l9', e9') := by
        unfold xRdS
        simp only [q1, q2, q3, q4, q5, q6, q7, q8, q9, s6, s7, s8]
      have HT2 : Hid (xRdN N l3 e3 = ((spd qs ++ [⟨tr, sid, pa, st, ln, sv, op, sb, ats⟩]) ++ (xRdN (N - (k + 1)) l9' e9').1, (xRdN (N - (k + 1)) l9' e9').2)) := hd (by
        have h4 := HTK.out
        rw [show N - k = (N - (k + 1)) + 1 by omega, xRdN_succ, hs] at h4
        rw [h4, List.append_assoc]
        rfl)
      have P1 := hd q1; have P2 := hd q2; have P3 := hd q3; have P4 := hd q4; have P5 := hd q5; have P9 := hd q9
      have P6 : Hid (∀ W, Rx W0.heap.size W xb l5' e5' → Calls Try.prog 45 #[.pointer (some ⟨xb, 0, none⟩), .int .i64 24] W fun e w' => e = .returned (.string sv) ∧ Rx W0.heap.size w' xb l6' e6' ∧ Kp (fun b => b = xb) W w') := hd (fun W h => by have h1 := textX_any h 24; rw [q6] at h1; unfold XText at h1; rw [s6] at h1; exact h1)
      have P7 : Hid (∀ W, Rx W0.heap.size W xb l6' e6' → Calls Try.prog 45 #[.pointer (some ⟨xb, 0, none⟩), .int .i64 24] W fun e w' => e = .returned (.string op) ∧ Rx W0.heap.size w' xb l7' e7' ∧ Kp (fun b => b = xb) W w') := hd (fun W h => by have h1 := textX_any h 24; rw [q7] at h1; unfold XText at h1; rw [s7] at h1; exact h1)
      have P8 : Hid (∀ W, Rx W0.heap.size W xb l7' e7' → Calls Try.prog 45 #[.pointer (some ⟨xb, 0, none⟩), .int .i64 64] W fun e w' => e = .returned (.string sb) ∧ Rx W0.heap.size w' xb l8' e8' ∧ Kp (fun b => b = xb) W w') := hd (fun W h => by have h1 := textX_any h 64; rw [q8] at h1; unfold XText at h1; rw [s8] at h1; exact h1)
      clear q1 q2 q3 q4 q5 q6 q7 q8 q9 s6 s7 s8 hs HTK
      go_wp2_with fail
      refine (UX_is R6.out P1.out).mono ?_
      rintro e w6 ⟨rfl, hr, hk⟩
      have Z7 := hd (hk.bk Z6.out (by have := HXB.out; omega))
      have A7 := hd (hk.bk A6.out (by have := HGX.out; omega))
      have O7 := hd (O6.out.kp hk (by have := HGX.out; omega))
      have B7 := hd (B6.out.trans (hk.below w.heap.size B6.out.size (fun k hk e => by have := HXB.out; omega)))
      have R7 := hd hr
      clear hr hk Z6 A6 O6 B6 R6 r1
      go_wp2_with fail
      refine (UX_is R7.out P2.out).mono ?_
      rintro e w7 ⟨rfl, hr, hk⟩
      have Z8 := hd (hk.bk Z7.out (by have := HXB.out; omega))
      have A8 := hd (hk.bk A7.out (by have := HGX.out; omega))
      have O8 := hd (O7.out.kp hk (by have := HGX.out; omega))
      have B8 := hd (B7.out.trans (hk.below w.heap.size B7.out.size (fun k hk e => by have := HXB.out; omega)))
      have R8 := hd hr
      clear hr hk Z7 A7 O7 B7 R7
      go_wp2_with fail
      refine (UX_is R8.out P3.out).mono ?_
      rintro e w8 ⟨rfl, hr, hk⟩
      have Z9 := hd (hk.bk Z8.out (by have := HXB.out; omega))
      have A9 := hd (hk.bk A8.out (by have := HGX.out; omega))
      have O9 := hd (O8.out.kp hk (by have := HGX.out; omega))
      have B9 := hd (B8.out.trans (hk.below w.heap.size B8.out.size (fun k hk e => by have := HXB.out; omega)))
      have R9 := hd hr
      clear hr hk Z8 A8 O8 B8 R8
      go_wp2_with fail
      refine (UX_is R9.out P4.out).mono ?_
      rintro e w9 ⟨rfl, hr, hk⟩
      have Z10 := hd (hk.bk Z9.out (by have := HXB.out; omega))
      have A10 := hd (hk.bk A9.out (by have := HGX.out; omega))
      have O10 := hd (O9.out.kp hk (by have := HGX.out; omega))
      have B10 := hd (B9.out.trans (hk.below w.heap.size B9.out.size (fun k hk e => by have := HXB.out; omega)))
      have R10 := hd hr
      clear hr hk Z9 A9 O9 B9 R9
      go_wp2_with fail
      refine (UX_is R10.out P5.out).mono ?_
      rintro e w10 ⟨rfl, hr, hk⟩
      have Z11 := hd (hk.bk Z10.out (by have := HXB.out; omega))
      have A11 := hd (hk.bk A10.out (by have := HGX.out; omega))
      have O11 := hd (O10.out.kp hk (by have := HGX.out; omega))
      have B11 := hd (B10.out.trans (hk.below w.heap.size B10.out.size (fun k hk e => by have := HXB.out; omega)))
      have R11 := hd hr
      clear hr hk Z10 A10 O10 B10 R10
      go_wp2_with fail
      refine (P6.out _ R11.out).mono ?_
      rintro e w11 ⟨rfl, hr, hk⟩
      have Z12 := hd (hk.bk Z11.out (by have := HXB.out; omega))
      have A12 := hd (hk.bk A11.out (by have := HGX.out; omega))
      have O12 := hd (O11.out.kp hk (by have := HGX.out; omega))
      have B12 := hd (B11.out.trans (hk.below w.heap.size B11.out.size (fun k hk e => by have := HXB.out; omega)))
      have R12 := hd hr
      clear hr hk Z11 A11 O11 B11 R11
      go_wp2_with fail
      refine (P7.out _ R12.out).mono ?_
      rintro e w12 ⟨rfl, hr, hk⟩
      have Z13 := hd (hk.bk Z12.out (by have := HXB.out; omega))
      have A13 := hd (hk.bk A12.out (by have := HGX.out; omega))
      have O13 := hd (O12.out.kp hk (by have := HGX.out; omega))
      have B13 := hd (B12.out.trans (hk.below w.heap.size B12.out.size (fun k hk e => by have := HXB.out; omega)))
      have R13 := hd hr
      clear hr hk Z12 A12 O12 B12 R12
      go_wp2_with fail
      refine (P8.out _ R13.out).mono ?_
      rintro e w13 ⟨rfl, hr, hk⟩
      have Z14 := hd (hk.bk Z13.out (by have := HXB.out; omega))
      have A14 := hd (hk.bk A13.out (by have := HGX.out; omega))
      have O14 := hd (O13.out.kp hk (by have := HGX.out; omega))
      have B14 := hd (B13.out.trans (hk.below w.heap.size B13.out.size (fun k hk e => by have := HXB.out; omega)))
      have R14 := hd hr
      clear hr hk Z13 A13 O13 B13 R13
      go_wp2_with fail
      have NB := below1 w13 (Obj.cells #[Value.int IntKind.i64 tr, Value.int IntKind.i64 sid, Value.int IntKind.i64 pa, Value.string sv, Value.string op, Value.int IntKind.i64 st, Value.int IntKind.i64 ln, Value.string sb, Value.slice none 0 0] 33)
      have D15 := hd (Bk.new w13 33 #[Value.int IntKind.i64 tr, Value.int IntKind.i64 sid, Value.int IntKind.i64 pa, Value.string sv, Value.string op, Value.int IntKind.i64 st, Value.int IntKind.i64 ln, Value.string sb, Value.slice none 0 0])
      have Z15 := hd (Z14.out.keep NB)
      have A15 := hd (A14.out.keep NB)
      have O15 := hd (O14.out.keep NB)
      have B15 := hd (below_below B14.out NB)
      have R15 := hd (R14.out.keepB NB)
      have HGS : Hid (g < w13.heap.size) := hd A14.out.lt
      have HOG : Hid (∀ j, (Value.slice x0 k cap).ownBlock = some j → j < w13.heap.size) := hd (fun j hj => (O14.out.own.2.lt j hj).2)
      have HOH : Hid (∀ q ∈ qs, ∀ j, q.2.ownBlock = some j → j < w13.heap.size) := hd (fun q hq j hj => ((O14.out.ats q hq).2.lt j hj).2)
      clear NB Z14 A14 O14 B14 R14
      generalize w13.alloc (Obj.cells #[Value.int IntKind.i64 tr, Value.int IntKind.i64 sid, Value.int IntKind.i64 pa, Value.string sv, Value.string op, Value.int IntKind.i64 st, Value.int IntKind.i64 ln, Value.string sb, Value.slice none 0 0] 33) = w14 at *
      obtain ⟨gs, hgs⟩ : ∃ g, w13.heap.size = g := ⟨_, rfl⟩
      rw [hgs] at D15 HGS HOG HOH ⊢
      clear hgs
      refine (TakeLX_is R15.out HLE.out R15.out.byt).mono ?_
      rw [P9.out]
      rintro e w15 ⟨v, rfl, ha, hr, hk⟩
      obtain ⟨y, z, rfl⟩ := ha.form
      obtain ⟨m, hm⟩ : ∃ m, ats.length = m := ⟨_, rfl⟩
      simp only at ha hr
      have HM := hd hm
      rw [hm] at ha ⊢
      have hvs : Value.slice y m z = Value.slice y m z := rfl
      have HFR := hd (O15.out.fresh (v := Value.slice y m z) (fun j hj => (ha.2.lt j hj).1))
      have HNS : Hid (∀ j, (Value.slice y m z).ownBlock = some j → gs < j) := hd (fun j hj => by have := (ha.2.lt j hj).1; have := D15.out.lt; omega)
      have T16 := hd (ha.t.lower (B' := g + 1) (by have := A15.out.lt; omega))
      have D := hk.bk D15.out (by have := HGS.out; have := HGX.out; omega)
      have d8 := D.cell 8
      have f8 := D.fz 8
      simp at d8
      have Z16 := hd (hk.bk Z15.out (by have := HXB.out; omega))
      have A16 := hd (hk.bk A15.out (by have := HGX.out; omega))
      have O16 := hd (O15.out.kp hk (by have := HGX.out; omega))
      have B16 := hd (B15.out.trans (hk.below w.heap.size B15.out.size (fun k hk e => by have := HXB.out; omega)))
      have R16 := hd hr
      have ks := kp_set1 w15 gs 8 (Value.slice y m z)
      have D17 : Hid (Bk (w15.setCell ⟨gs, 8, none⟩ (Value.slice y m z)) gs 33 #[Value.int IntKind.i64 tr, Value.int IntKind.i64 sid, Value.int IntKind.i64 pa, Value.string sv, Value.string op, Value.int IntKind.i64 st, Value.int IntKind.i64 ln, Value.string sb, Value.slice y m z]) := hd (D.set 8 (Value.slice y m z))
      have HWG : Hid (w.heap.size < gs) := hd (by have := HXB.out; have := HGX.out; have := HGS.out; omega)
      have Z17 := hd (ks.bk Z16.out (by have := HWG.out; omega))
      have A17 := hd (ks.bk A16.out (by have := HGS.out; omega))
      have O17 := hd (O16.out.kpx ks (fun j hj => by have := HOG.out j hj; omega) (fun q hq j hj => by have := HOH.out q hq j hj; omega))
      have T17 := hd (T16.out.kp ks (fun j hj => by have := HNS.out j hj; omega))
      have B17 := hd (B16.out.trans (ks.below w.heap.size B16.out.size (fun k hk e => by have := HWG.out; omega)))
      have R17 := hd (R16.out.setO gs 8 (Value.slice y m z) (Or.inr (by have := HGS.out; have := HGX.out; omega)) HLE.out)
      clear ha hr hk hm D ks hvs Z15 A15 O15 B15 R15 D15 Z16 A16 O16 B16 R16 T16
      go_upto_region 11 with fail
      clear d8 f8
      generalize w15.setCell ⟨gs, 8, none⟩ (Value.slice y m z) = w17 at *
      have a0 := D17.out.cell 0
      have a1 := D17.out.cell 1
      have a2 := D17.out.cell 2
      have a3 := D17.out.cell 3
      have a4 := D17.out.cell 4
      have a5 := D17.out.cell 5
      have a6 := D17.out.cell 6
      have a7 := D17.out.cell 7
      have a8 := D17.out.cell 8
      have c2 := A17.out.cell 2
      simp at a0 a1 a2 a3 a4 a5 a6 a7 a8 c2
      have NB := below1 w17 (Obj.cells #[Value.int IntKind.i64 tr, Value.int IntKind.i64 sid, Value.int IntKind.i64 pa, Value.string sv, Value.string op, Value.int IntKind.i64 st, Value.int IntKind.i64 ln, Value.string sb, Value.slice y m z] 33)
      have V18 := Bk.new w17 33 #[Value.int IntKind.i64 tr, Value.int IntKind.i64 sid, Value.int IntKind.i64 pa, Value.string sv, Value.string op, Value.int IntKind.i64 st, Value.int IntKind.i64 ln, Value.string sb, Value.slice y m z]
      obtain ⟨c', w19, hrn, ho', hk', _⟩ := (O17.out.keep NB).app (q := (⟨tr, sid, pa, st, ln, sv, op, sb, ats⟩, .slice y m z)) V18 (T17.out.keep NB) HFR.out (Nat.le_trans (by have := A17.out.lt; omega) NB.size) (by have := HK.out; have := H16.out; omega) 22
      obtain ⟨y2, z2, hc⟩ := ho'.form
      rw [List.length_append, HK.out] at hc
      simp only [List.length_singleton] at hc
      subst hc
      have HRN := hd hrn
      have O19 := hd ho'
      have Z19 := hd ((hk'.block w.heap.size (by have := HXB.out; have := HGX.out; omega)).trans (Z17.out.keep NB))
      have A19 := hd ((hk'.block g (by omega)).trans (A17.out.keep NB))
      have B19 := hd ((below_below B17.out NB).trans (hk'.mono (by have := HXB.out; have := HGX.out; omega)))
      have R19 := hd ((R17.out.keepB NB).far hk' (by have := HGX.out; omega))
      clear NB V18 hrn ho' hk' O17 T17 Z17 A17 B17 R17 D17
      have HA19 : Hid (Bk w19 g 24 #[Value.int IntKind.i64 ag, Value.int IntKind.i64 sq, Value.slice x0 k cap]) := hd A19.out
      have e2 := HA19.out.cell 2
      have f2 := HA19.out.fz 2
      simp at e2
      go_wp2_with (at_builtin; refine wpList_append_run _ rfl _ _ _ _ rfl _ _ rfl rfl _ w19 HRN.out ?_)
      have ks := kp_set1 w19 g 2 (Value.slice y2 (k + 1) z2)
      have A20 : Hid (Bk (w19.setCell ⟨g, 2, none⟩ (Value.slice y2 (k + 1) z2)) g 24 #[Value.int IntKind.i64 ag, Value.int IntKind.i64 sq, Value.slice y2 (k + 1) z2]) := hd (HA19.out.set 2 _)
      have Z20 := hd (ks.bk Z19.out (by have := HXB.out; have := HGX.out; omega))
      have O20 := hd (O19.out.kp ks (by omega))
      have B20 := hd (B19.out.trans (ks.below w.heap.size B19.out.size (fun k hk e => by have := HXB.out; have := HGX.out; omega)))
      have R20 := hd (R19.out.setO g 2 (Value.slice y2 (k + 1) z2) (Or.inr HGX.out) HLE.out)
      clear e2 f2 a0 a1 a2 a3 a4 a5 a6 a7 a8 c2 ks A19 HA19 Z19 O19 B19 R19
      generalize w19.setCell ⟨g, 2, none⟩ (Value.slice y2 (k + 1) z2) = w20 at *
      go_roundw
      case rel => exact ⟨qs ++ [(⟨tr, sid, pa, st, ln, sv, op, sb, ats⟩, .slice y m z)], l9', e9', _, by rw [List.length_append, HK.out]; go_num, Z20.out, A20.out, O20.out, by rw [List.length_append, HK.out]; show k + 1 ≤ N; omega, R20.out, R20.out.byt, B20.out, by rw [List.length_append, HK.out]; unfold spd; rw [List.map_append]; exact HT2.out⟩
      case measure => simp [intOf]; omega
    · have hfin : xRdN N l3 e3 = (spd qs, lk, ek) := by
        have h4 := HTK.out
        by_cases hlt : k < N
        · have hek : ek ≠ 0 := fun hh => hgo ⟨hlt, hh⟩
          rw [h4, xRdN_err _ _ hek, List.append_nil]
        · have hkn : k = N := by have := HQN.out; omega
          rw [h4, hkn, Nat.sub_self]
          show (spd qs ++ [], lk, ek) = _
          rw [List.append_nil]
      have HFN := hd hfin
      have HP3 : Hid ((if ek = 0 ∧ lk = [] ∧ okB ⟨ag, sq, spd qs⟩ = true ∧ batB ⟨ag, sq, spd qs⟩ = l then some ⟨ag, sq, spd qs⟩ else none) = o) := hd (by have h := HP2.out; rw [hfin] at h; exact h)
      clear hfin HP2 HTK HQN
      by_cases hlt : k < N
      · have hek : ek ≠ 0 := fun hh => hgo ⟨hlt, hh⟩
        have hlz : (k : Int) < (N : Int) := by omega
        have hne : (ek == 0) = false := by rw [beq_eq_false_iff_ne]; exact hek
        have hne2 : (ek != 0) = true := by rw [bne_iff_ne]; exact hek
        have HE := hd hek
        have hp := HP3.out
        rw [if_neg (fun k => HE.out k.1)] at hp
        subst hp
        clear hek hgo
        have z0 := Z6.out.cell 0
        have f0 := Z6.out.fz 0
        have z1 := Z6.out.cell 1
        have f1 := Z6.out.fz 1
        have z2 := Z6.out.cell 2
        have f2 := Z6.out.fz 2
        simp at z0 z1 z2
        go_wp2_with fail
        have hf := FIN.out _ _ 0 0 (.slice none 0 0) [] 90 B6.out Z6.out (OwB.nil _ _) rfl rfl rfl rfl rfl
        refine bodyPost_ret (res_bt rfl _ _ w.heap.size _ rfl hf.1 rfl) rfl ?_
        exact hf.2
      · have hlz : ¬ (k : Int) < (N : Int) := by omega
        by_cases hek : ek = 0
        case neg =>
          have hne2 : (ek != 0) = true := by rw [bne_iff_ne]; exact hek
          have HE := hd hek
          have hp := HP3.out
          rw [if_neg (fun k => HE.out k.1)] at hp
          subst hp
          clear hek hgo
          have z0 := Z6.out.cell 0
          have f0 := Z6.out.fz 0
          have z1 := Z6.out.cell 1
          have f1 := Z6.out.fz 1
          have z2 := Z6.out.cell 2
          have f2 := Z6.out.fz 2
          simp at z0 z1 z2
          go_wp2_with fail
          have hf := FIN.out _ _ 0 0 (.slice none 0 0) [] 90 B6.out Z6.out (OwB.nil _ _) rfl rfl rfl rfl rfl
          refine bodyPost_ret (res_bt rfl _ _ w.heap.size _ rfl hf.1 rfl) rfl ?_
          exact hf.2
        subst hek
        go_wp2_with fail
        obtain ⟨k', hk'⟩ : ∃ k, lk.length = k := ⟨_, rfl⟩
        have HK' := hd hk'
        refine (LeftX_ok R6.out k' hk').mono ?_
        rintro e wr ⟨rfl, rfl⟩
        clear hk'
        by_cases hz : k' = 0
        case neg =>
          have HZ := hd hz
          have hne : (0 : Int) < (k' : Int) := by omega
          have hp := HP3.out
          rw [if_neg (fun k => by have h := HK'.out; rw [k.2.1] at h; exact HZ.out h.symm)] at hp
          subst hp
          clear hz
          have z0 := Z6.out.cell 0
          have f0 := Z6.out.fz 0
          have z1 := Z6.out.cell 1
          have f1 := Z6.out.fz 1
          have z2 := Z6.out.cell 2
          have f2 := Z6.out.fz 2
          simp at z0 z1 z2
          go_wp2_with fail
          have hf := FIN.out _ _ 0 0 (.slice none 0 0) [] 90 B6.out Z6.out (OwB.nil _ _) rfl rfl rfl rfl rfl
          refine bodyPost_ret (res_bt rfl _ _ w.heap.size _ rfl hf.1 rfl) rfl ?_
          exact hf.2
        subst hz
        have HLN : Hid (lk = []) := hd (List.eq_nil_of_length_eq_zero HK'.out)
        have a0 := A6.out.cell 0
        have a1 := A6.out.cell 1
        have a2 := A6.out.cell 2
        simp at a0 a1 a2
        have HWF : Hid (∀ q ∈ qs, WfS q.1) := hd (fun q hq => xRdN_wf HB3.out HFN.out q.1 (List.mem_map.2 ⟨q, hq, rfl⟩))
        go_wp2_with fail
        refine (rcheckB_any (ag := ag) (sq := sq) O6.out.sps HWF.out).mono ?_
        rintro e w7 ⟨rfl, hk⟩
        have A7 := hd (A6.out.keep hk)
        have O7 := hd (O6.out.keep hk)
        have Z7 := hd (Z6.out.keep hk)
        have B7 := hd (below_below B6.out hk)
        clear hk A6 O6 Z6 B6 R6 a0 a1 a2 r1
        cases hok : okB ⟨ag, sq, spd qs⟩
        · have HOK := hd hok
          have hp := HP3.out
          rw [if_neg (fun k => by rw [HOK.out] at k; cases k.2.2.1)] at hp
          subst hp
          clear hok
          have z0 := Z7.out.cell 0
          have f0 := Z7.out.fz 0
          have z1 := Z7.out.cell 1
          have f1 := Z7.out.fz 1
          have z2 := Z7.out.cell 2
          have f2 := Z7.out.fz 2
          simp at z0 z1 z2
          go_wp2_with fail
          have hf := FIN.out _ _ 0 0 (.slice none 0 0) [] 90 B7.out Z7.out (OwB.nil _ _) rfl rfl rfl rfl rfl
          refine bodyPost_ret (res_bt rfl _ _ w.heap.size _ rfl hf.1 rfl) rfl ?_
          exact hf.2
        · have HOK := hd hok
          clear hok
          have a0 := A7.out.cell 0
          have a1 := A7.out.cell 1
          have a2 := A7.out.cell 2
          simp at a0 a1 a2
          go_wp2_with fail
          have HWR := hd (rwrite_ok (ag := ag) (sq := sq) O7.out.sps HAG.out HSQ.out (by have h := (okB_parts HOK.out).2.2.1.2; simp only [spd_len] at h; exact h) (fun q hq => Fit.of (okB_sp HOK.out q hq) (HWF.out q hq)))
          refine HWR.out.mono ?_
          rintro e w8 ⟨a8, p8, rfl, ho8, hk⟩
          have A8 := hd (A7.out.keep hk)
          have O8 := hd (O7.out.keep hk)
          have Z8 := hd (Z7.out.keep hk)
          have B8 := hd (below_below B7.out hk)
          have X8 := hd ho8.bs
          have H8 := hd (H.out.keep B8.out)
          clear hk A7 O7 Z7 B7 a0 a1 a2 HWR ho8
          go_wp2_with fail
          have HEQ := hd (eq_bx X8.out H8.out)
          refine HEQ.out.mono ?_
          rintro e w9 ⟨rfl, nd, rfl⟩
          have hdr : Below w8.heap.size w8 (w8.drewN nd) := below_drewN (Below.refl _ _) nd
          have A9 := hd (A8.out.keep hdr)
          have O9 := hd (O8.out.keep hdr)
          have Z9 := hd (Z8.out.keep hdr)
          have B9 := hd (below_below B8.out hdr)
          clear hdr A8 O8 Z8 B8 X8 H8 HEQ
          generalize w8.drewN nd = w9 at *
          by_cases hbq : batB ⟨ag, sq, spd qs⟩ = l
          · have hbd : decide (batB ⟨ag, sq, spd qs⟩ = l) = true := decide_eq_true hbq
            have hp := HP3.out
            rw [if_pos ⟨by first | rfl | trivial, HLN.out, HOK.out, hbq⟩] at hp
            subst hp
            rw [hbd]
            clear hbq hbd
            have z0 := Z9.out.cell 0
            have f0 := Z9.out.fz 0
            have z1 := Z9.out.cell 1
            have f1 := Z9.out.fz 1
            have z2 := Z9.out.cell 2
            have f2 := Z9.out.fz 2
            simp at z0 z1 z2
            have a0 := A9.out.cell 0
            have a1 := A9.out.cell 1
            have a2 := A9.out.cell 2
            simp at a0 a1 a2
            go_wp2_with fail
            have hf := FIN.out _ _ ag sq (.slice x0 k cap) qs 0 B9.out Z9.out (O9.out.lower (by have := HXB.out; have := HGX.out; omega)) rfl rfl rfl rfl rfl
            refine bodyPost_ret (res_bt rfl _ _ w.heap.size _ rfl hf.1 rfl) rfl ?_
            exact hf.2
          · have hbd : decide (batB ⟨ag, sq, spd qs⟩ = l) = false := decide_eq_false hbq
            have HBQ := hd hbq
            have hp := HP3.out
            rw [if_neg (fun k => HBQ.out k.2.2.2)] at hp
            subst hp
            rw [hbd]
            clear hbq hbd
            have z0 := Z9.out.cell 0
            have f0 := Z9.out.fz 0
            have z1 := Z9.out.cell 1
            have f1 := Z9.out.fz 1
            have z2 := Z9.out.cell 2
            have f2 := Z9.out.fz 2
            simp at z0 z1 z2
            go_wp2_with fail
            have hf := FIN.out _ _ 0 0 (.slice none 0 0) [] 90 B9.out Z9.out (OwB.nil _ _) rfl rfl rfl rfl rfl
            refine bodyPost_ret (res_bt rfl _ _ w.heap.size _ rfl hf.1 rfl) rfl ?_
            exact hf.2

end Go.Proofs.Yteifaipbckhoiaa

namespace Go.Proofs.Yteifaipbckhoiaa
open Go.RowKit
set_option linter.unusedVariables false

theorem OwB.lt {B : Nat} {w : World} {c : Value} {qs : List SpanV} (h : OwB B w c qs) : (∀ g, c.ownBlock = some g → g < w.heap.size) ∧ ∀ q ∈ qs, ∀ g, q.2.ownBlock = some g → g < w.heap.size :=
  ⟨fun g hg => (h.own.2.lt g hg).2, fun q hq g hg => ((h.ats q hq).2.lt g hg).2⟩
/-- How CopySpans ends. -/
def CopS (w : World) (qs : List SpanV) (e : Ending) (w' : World) : Prop := ∃ c ps, e = .returned c ∧ spd ps = spd qs ∧ OwB w.heap.size w' c ps ∧ Below w.heap.size w w'

set_option maxRecDepth 100000 in
set_option maxHeartbeats 8000000 in
theorem copyS_is {w : World} {v : Value} {qs : List SpanV} (h : Sps w v qs) (hr : Room qs) :
    Calls Try.prog 25 #[v] w fun e w' => CopS w qs e w' := by
  obtain ⟨x0, cap, rfl⟩ := h.el.form
  have H47 := h.el.len
  obtain ⟨n, hn⟩ : ∃ n, qs.length = n := ⟨_, rfl⟩
  rw [hn] at h H47 ⊢
  have HN := hd hn; have HR := hd hr; have HS := hd h
  clear hn hr h
  go_enter Try.func25, Try.ntmps25
  go_wp2_with fail
  go_loopw [3, 4, 5] (fun c i _ wr => ∃ (k : Nat) (ps : List SpanV), k ≤ n ∧ i = .int .i64 (k : Int) ∧ ps.length = k ∧ spd ps = spd (qs.take k) ∧ OwB w.heap.size wr c ps ∧ Below w.heap.size w wr) (fun _ i _ _ => n - (intOf i).toNat)
  case atStart => exact ⟨0, [], Nat.zero_le _, rfl, rfl, by rw [List.take_zero], OwB.nil _ _, Below.refl _ _⟩
  case round =>
    obtain ⟨k, ps, hkn, rfl, hpk, hps, ho, hb⟩ := hrel
    obtain ⟨ox, ocap, hv⟩ := ho.form
    rw [hpk] at hv
    subst hv
    have HPK := hd hpk; have HPS := hd hps; have HO := hd ho; have HB := hd hb
    clear hpk hps ho hb
    by_cases hlt : k < n
    case neg =>
      have hnl : ¬ (k : Int) < (n : Int) := by omega
      have hkn' : k = n := by omega
      have he : spd ps = spd qs := by rw [HPS.out, List.take_of_length_le (by rw [HN.out]; omega)]
      have HE := hd he
      clear he hkn'
      go_wp2_with fail
      go_ret
      exact ⟨_, ps, rfl, HE.out, HO.out, HB.out⟩
    have hlz : (k : Int) < (n : Int) := by omega
    have hxk : k < qs.length := by rw [HN.out]; exact hlt
    obtain ⟨⟨⟨tr, sid, pa, st, ln, sv, op, sb, ats⟩, v⟩, he1⟩ : ∃ r : SpanV, qs[k]'(by omega) = r := ⟨_, rfl⟩
    obtain ⟨g, off, hx, hc, h47, c0, c1, c2, c3, c4, c5, c6, c7, c8, hel⟩ := HS.out.atS HB.out HN.out hlt he1
    subst hx
    obtain ⟨vx, vc, hv⟩ := hel.form
    obtain ⟨m, hm⟩ : ∃ m, ats.length = m := ⟨_, rfl⟩
    rw [hm] at hv
    subst hv
    have HAL : Hid (ats.length * 64 ≤ 140737488355328) := hd (by have := HR.out.2 _ (List.getElem_mem hxk); rw [he1] at this; exact this)
    have HT : Hid (spd (qs.take (k + 1)) = spd (qs.take k) ++ [⟨tr, sid, pa, st, ln, sv, op, sb, ats⟩]) := hd (by
      rw [List.take_succ_eq_append_getElem hxk, he1]
      unfold spd
      rw [List.map_append]
      rfl)
    have HE := hd (hel.keep HB.out)
    clear he1 hel hxk
    have NB := below1 wr (Obj.cells #[Value.int IntKind.i64 tr, Value.int IntKind.i64 sid, Value.int IntKind.i64 pa, Value.string sv, Value.string op, Value.int IntKind.i64 st, Value.int IntKind.i64 ln, Value.string sb, Value.slice vx m vc] 33)
    have D1 := hd (Bk.new wr 33 #[Value.int IntKind.i64 tr, Value.int IntKind.i64 sid, Value.int IntKind.i64 pa, Value.string sv, Value.string op, Value.int IntKind.i64 st, Value.int IntKind.i64 ln, Value.string sb, Value.slice vx m vc])
    have O1 := hd (HO.out.keep NB)
    have B1 := hd (below_below HB.out NB)
    have E1 := HE.out.keep NB
    have HL := hd HO.out.lt
    have HWS : Hid (w.heap.size ≤ wr.heap.size) := hd HB.out.size
    go_upto_region 6 with fail
    clear c0 c1 c2 c3 c4 c5 c6 c7 c8 NB HO HB HE
    generalize wr.alloc (Obj.cells #[Value.int IntKind.i64 tr, Value.int IntKind.i64 sid, Value.int IntKind.i64 pa, Value.string sv, Value.string op, Value.int IntKind.i64 st, Value.int IntKind.i64 ln, Value.string sb, Value.slice vx m vc] 33) = w1 at *
    obtain ⟨gs, hgs⟩ : ∃ g, wr.heap.size = g := ⟨_, rfl⟩
    rw [hgs] at D1 HL HWS ⊢
    clear hgs
    obtain ⟨v2, w2, r2, t2, k2⟩ := OwT.copy E1 HAL.out 31
    obtain ⟨y, z, hv2⟩ := t2.form
    rw [hm] at hv2
    subst hv2
    have HR2 := hd r2
    have HFR := hd (O1.out.fresh (v := Value.slice y m z) (fun j hj => (t2.2.lt j hj).1))
    have HNS : Hid (∀ j, (Value.slice y m z).ownBlock = some j → gs < j) := hd (fun j hj => by have := (t2.2.lt j hj).1; have := D1.out.lt; omega)
    have D2 := hd (D1.out.keep k2)
    have O2 := hd (O1.out.keep k2)
    have B2 := hd (below_below B1.out k2)
    have T2 := hd (t2.lower (B' := w.heap.size) B1.out.size)
    have c8 := D1.out.cell 8
    have d8 := D2.out.cell 8
    have f8 := D2.out.fz 8
    simp at c8 d8
    clear E1 r2 t2 k2 O1 B1 D1
    have ks := kp_set1 w2 gs 8 (Value.slice y m z)
    have D3 : Hid (Bk (w2.setCell ⟨gs, 8, none⟩ (Value.slice y m z)) gs 33 #[Value.int IntKind.i64 tr, Value.int IntKind.i64 sid, Value.int IntKind.i64 pa, Value.string sv, Value.string op, Value.int IntKind.i64 st, Value.int IntKind.i64 ln, Value.string sb, Value.slice y m z]) := hd (D2.out.set 8 (Value.slice y m z))
    have O3 := hd (O2.out.kpx ks (fun j hj => by have := HL.out.1 j hj; omega) (fun q hq j hj => by have := HL.out.2 q hq j hj; omega))
    have HGS : Hid (w.heap.size ≤ gs) := hd HWS.out
    have B3 := hd (B2.out.trans (ks.below w.heap.size B2.out.size (fun k hk e => by have := HGS.out; omega)))
    have T3 := hd (T2.out.kp ks (fun j hj => by have := HNS.out j hj; omega))
    clear ks O2 B2 T2
    go_upto_region 7 with (at_builtin; refine wpList_append_run _ rfl _ _ _ _ rfl _ _ rfl rfl _ w2 HR2.out ?_)
    clear c8 d8 f8 D2
    generalize w2.setCell ⟨gs, 8, none⟩ (Value.slice y m z) = w3 at *
    have a0 := D3.out.cell 0
    have a1 := D3.out.cell 1
    have a2 := D3.out.cell 2
    have a3 := D3.out.cell 3
    have a4 := D3.out.cell 4
    have a5 := D3.out.cell 5
    have a6 := D3.out.cell 6
    have a7 := D3.out.cell 7
    have a8 := D3.out.cell 8
    simp at a0 a1 a2 a3 a4 a5 a6 a7 a8
    have NB := below1 w3 (Obj.cells #[Value.int IntKind.i64 tr, Value.int IntKind.i64 sid, Value.int IntKind.i64 pa, Value.string sv, Value.string op, Value.int IntKind.i64 st, Value.int IntKind.i64 ln, Value.string sb, Value.slice y m z] 33)
    have V4 := Bk.new w3 33 #[Value.int IntKind.i64 tr, Value.int IntKind.i64 sid, Value.int IntKind.i64 pa, Value.string sv, Value.string op, Value.int IntKind.i64 st, Value.int IntKind.i64 ln, Value.string sb, Value.slice y m z]
    obtain ⟨c5, w5, r5, o5, k5, _⟩ := (O3.out.keep NB).app (q := (⟨tr, sid, pa, st, ln, sv, op, sb, ats⟩, .slice y m z)) V4 (T3.out.keep NB) HFR.out (Nat.le_trans B3.out.size NB.size) (by have := HPK.out; have := HR.out.1; have := HN.out; omega) 22
    have HR5 := hd r5
    have O5 := hd o5
    have B5 := hd ((B3.out.trans (NB.mono B3.out.size)).trans k5)
    clear NB V4 r5 o5 k5 O3 B3 T3 D3
    go_wp2_with (at_builtin; refine wpList_append_run _ rfl _ _ _ _ rfl _ _ rfl rfl _ w5 HR5.out ?_)
    clear a0 a1 a2 a3 a4 a5 a6 a7 a8
    go_roundw
    case rel => exact ⟨k + 1, ps ++ [(⟨tr, sid, pa, st, ln, sv, op, sb, ats⟩, .slice y m z)], by omega, by go_num, by rw [List.length_append, HPK.out]; rfl, by rw [HT.out, ← HPS.out]; unfold spd; rw [List.map_append]; rfl, O5.out, B5.out⟩
    case measure => simp [intOf]; omega

/-- How Copy ends. -/
def CopB (w : World) (ag sq : Int) (qs : List SpanV) (e : Ending) (w' : World) : Prop :=
  ∃ c ps, e = .returned (.agg #[.int .i64 ag, .int .i64 sq, c]) ∧ spd ps = spd qs ∧ OwB w.heap.size w' c ps ∧ Below w.heap.size w w'
set_option maxRecDepth 100000 in
set_option maxHeartbeats 4000000 in
theorem copyB_is {w : World} {v : Value} {qs : List SpanV} (ag sq : Int) (h : Sps w v qs) (hr : Room qs) :
    Calls Try.prog 9 #[.agg #[.int .i64 ag, .int .i64 sq, v]] w fun e w' => CopB w ag sq qs e w' := by
  obtain ⟨x0, cap, rfl⟩ := h.el.form
  obtain ⟨n, hn⟩ : ∃ n, qs.length = n := ⟨_, rfl⟩
  rw [hn] at h ⊢
  have HR := hd hr; have HS := hd h
  clear hn hr h
  have NB := below2 w (Obj.cells #[Value.int IntKind.i64 ag, Value.int IntKind.i64 sq, Value.slice x0 n cap] 24) (Obj.cells #[Value.int IntKind.i64 0, Value.int IntKind.i64 0, Value.slice none 0 0] 24)
  have k2 := below1 (w.alloc (Obj.cells #[Value.int IntKind.i64 ag, Value.int IntKind.i64 sq, Value.slice x0 n cap] 24)) (Obj.cells #[Value.int IntKind.i64 0, Value.int IntKind.i64 0, Value.slice none 0 0] 24)
  have hz : (w.alloc (Obj.cells #[Value.int IntKind.i64 ag, Value.int IntKind.i64 sq, Value.slice x0 n cap] 24)).heap.size = w.heap.size + 1 := by simp
  have A0 := hd ((Bk.new w 24 #[Value.int IntKind.i64 ag, Value.int IntKind.i64 sq, Value.slice x0 n cap]).keep k2)
  have Z := Bk.new (w.alloc (Obj.cells #[Value.int IntKind.i64 ag, Value.int IntKind.i64 sq, Value.slice x0 n cap] 24)) 24 #[Value.int IntKind.i64 0, Value.int IntKind.i64 0, Value.slice none 0 0]
  rw [hz] at Z
  have Z0 := hd Z
  have S0 := hd (HS.out.keep NB)
  have B0 := hd NB
  clear NB k2 hz Z HS
  have c2 := A0.out.cell 2
  simp at c2
  go_enter Try.func9, Try.ntmps9
  go_wp2_with fail
  generalize (w.alloc (Obj.cells #[Value.int IntKind.i64 ag, Value.int IntKind.i64 sq, Value.slice x0 n cap] 24)).alloc (Obj.cells #[Value.int IntKind.i64 0, Value.int IntKind.i64 0, Value.slice none 0 0] 24) = w1 at *
  refine (copyS_is S0.out HR.out).mono ?_
  rintro e w2 ⟨c, ps, rfl, hps, ho, hk⟩
  obtain ⟨y, z, rfl⟩ := ho.form
  obtain ⟨m, hm⟩ : ∃ m, ps.length = m := ⟨_, rfl⟩
  rw [hm] at ho ⊢
  have HPS := hd hps
  have HLO : Hid (w.heap.size + 1 < w1.heap.size) := hd Z0.out.lt
  have O2 := hd ho
  have A2 := hd (A0.out.keep hk)
  have Z2 := hd (Z0.out.keep hk)
  have B2 := hd (below_below B0.out hk)
  clear hps ho hk A0 Z0 S0 B0 c2 hm
  obtain ⟨g, hg⟩ : ∃ g, w.heap.size = g := ⟨_, rfl⟩
  rw [hg] at A2 Z2 HLO ⊢
  have HG := hd hg
  clear hg
  have d2 := A2.out.cell 2
  have f2 := A2.out.fz 2
  simp at d2
  have ks := kp_set1 w2 g 2 (Value.slice y m z)
  have A3 : Hid (Bk (w2.setCell ⟨g, 2, none⟩ (Value.slice y m z)) g 24 #[Value.int IntKind.i64 ag, Value.int IntKind.i64 sq, Value.slice y m z]) := hd (A2.out.set 2 (Value.slice y m z))
  have Z3 := hd (ks.bk Z2.out (by omega))
  have O3 := hd (O2.out.kp ks (by have := HLO.out; omega))
  have K3 := hd ((kpB B2.out (fun _ => False)).setCell ⟨g, 2, none⟩ (Value.slice y m z) (fun h => absurd h (by have := HG.out; show ¬ g < w.heap.size; omega)))
  clear ks A2 Z2 O2 B2
  go_upto_region 2 with fail
  clear d2 f2
  generalize w2.setCell ⟨g, 2, none⟩ (Value.slice y m z) = w3 at *
  have a0 := A3.out.cell 0
  have a1 := A3.out.cell 1
  have a2 := A3.out.cell 2
  have z0 := Z3.out.cell 0
  have z1 := Z3.out.cell 1
  have z2 := Z3.out.cell 2
  have f0 := Z3.out.fz 0
  have f1 := Z3.out.fz 1
  have f2 := Z3.out.fz 2
  simp at a0 a1 a2 z0 z1 z2
  go_wp2_with fail
  have AZ := Z3.out.set3 (.int .i64 ag) (.int .i64 sq) (Value.slice y m z)
  have kz : Kp (fun b => b = g + 1) w3 (((w3.setCell ⟨g + 1, 0, none⟩ (.int .i64 ag)).setCell ⟨g + 1, 1, none⟩ (.int .i64 sq)).setCell ⟨g + 1, 2, none⟩ (Value.slice y m z)) := ((kp_set1 w3 (g + 1) 0 (.int .i64 ag)).setCell ⟨g + 1, 1, none⟩ (.int .i64 sq) (fun _ => rfl)).setCell ⟨g + 1, 2, none⟩ (Value.slice y m z) (fun _ => rfl)
  have KZ := K3.out.then kz (fun i h1 h2 => absurd h1 (by have h3 : i = g + 1 := h2; have := HG.out; omega))
  have OZ := (O3.out.kp kz (by have := HLO.out; omega)).lower (B' := w.heap.size) (by have := HG.out; have := HLO.out; omega)
  exact bodyPost_ret (res_batch rfl _ _ (g + 1) _ _ _ _ _ rfl AZ) rfl ⟨.slice y m z, ps, rfl, HPS.out, OZ, KZ.below w.heap.size (Nat.le_refl _) (fun _ _ h => h)⟩

end Go.Proofs.Yteifaipbckhoiaa

namespace Go.Proofs.Yteifaipbckhoiaa
open Go.RowKit
set_option linter.unusedVariables false

theorem sameS_self (a : SpanD) : sameS a a = true := by
  unfold sameS
  simp [eqs_self, sameAs_self]
theorem sameL_self {α : Type} {e : α → α → Bool} (h : ∀ a, e a a = true) : ∀ xs : List α, sameL e xs xs = true
  | [] => rfl
  | a :: t => by show (e a a && sameL e t t) = true; rw [h, sameL_self h t]; rfl
theorem sameBt_self (b : BatchD) : sameBt b b = true := by
  unfold sameBt
  simp [sameL_self sameS_self]
/-- The chapter's batch as it lies. -/
def ChE (w : World) (e : Ending) (w' : World) : Prop :=
  ∃ b, e = .returned (Value.agg #[Value.int IntKind.i64 1, Value.int IntKind.i64 2, Value.slice (some ⟨b, 0, none⟩) 1 1]) ∧ OwB w.heap.size w' (Value.slice (some ⟨b, 0, none⟩) 1 1) [(chS, Value.slice none 0 0)] ∧ Below w.heap.size w w'
theorem ch_own {B : Nat} (w : World) (hB : B ≤ w.heap.size) : OwB B (w.alloc (Obj.cells #[Value.int IntKind.i64 3, Value.int IntKind.i64 4, Value.int IntKind.i64 0, Value.string ⟨#[97]⟩, Value.string ⟨#[98]⟩, Value.int IntKind.i64 5, Value.int IntKind.i64 6, Value.string ⟨#[]⟩, Value.slice none 0 0] 33)) (Value.slice (some ⟨w.heap.size, 0, none⟩) 1 1) [(chS, Value.slice none 0 0)] := by
  refine ⟨⟨by simp, rfl, Or.inr ⟨w.heap.size, 1, #[Value.int IntKind.i64 3, Value.int IntKind.i64 4, Value.int IntKind.i64 0, Value.string ⟨#[97]⟩, Value.string ⟨#[98]⟩, Value.int IntKind.i64 5, Value.int IntKind.i64 6, Value.string ⟨#[]⟩, Value.slice none 0 0], rfl, hB, heap_alloc_new w _, Nat.le_refl _, by decide, rfl, rfl⟩⟩, fun q hq => ?_, fun q hq g hg => ?_, List.pairwise_singleton _ _⟩
  · obtain rfl := List.mem_singleton.1 hq
    exact ⟨by decide, World.ownsRow_nil _ B 54 6⟩
  · obtain rfl := List.mem_singleton.1 hq
    cases hg
set_option maxRecDepth 100000 in
set_option maxHeartbeats 1000000 in
theorem chapter_is (w : World) : Calls Try.prog 38 #[] w fun e w' => ChE w e w' := by
  have NB := below2 w (Obj.cells #[Value.int IntKind.i64 1, Value.int IntKind.i64 2, Value.slice (some ⟨w.heap.size + 1, 0, none⟩) 1 1] 24) (Obj.cells #[Value.int IntKind.i64 3, Value.int IntKind.i64 4, Value.int IntKind.i64 0, Value.string ⟨#[97]⟩, Value.string ⟨#[98]⟩, Value.int IntKind.i64 5, Value.int IntKind.i64 6, Value.string ⟨#[]⟩, Value.slice none 0 0] 33)
  have hz : (w.alloc (Obj.cells #[Value.int IntKind.i64 1, Value.int IntKind.i64 2, Value.slice (some ⟨w.heap.size + 1, 0, none⟩) 1 1] 24)).heap.size = w.heap.size + 1 := by simp
  have Z := hd ((Bk.new w 24 #[Value.int IntKind.i64 1, Value.int IntKind.i64 2, Value.slice (some ⟨w.heap.size + 1, 0, none⟩) 1 1]).keep (below1 (w.alloc (Obj.cells #[Value.int IntKind.i64 1, Value.int IntKind.i64 2, Value.slice (some ⟨w.heap.size + 1, 0, none⟩) 1 1] 24)) (Obj.cells #[Value.int IntKind.i64 3, Value.int IntKind.i64 4, Value.int IntKind.i64 0, Value.string ⟨#[97]⟩, Value.string ⟨#[98]⟩, Value.int IntKind.i64 5, Value.int IntKind.i64 6, Value.string ⟨#[]⟩, Value.slice none 0 0] 33)))
  have O := ch_own (B := w.heap.size + 1) (w.alloc (Obj.cells #[Value.int IntKind.i64 1, Value.int IntKind.i64 2, Value.slice (some ⟨w.heap.size + 1, 0, none⟩) 1 1] 24)) (by rw [hz]; exact Nat.le_refl _)
  rw [hz] at O
  have HO := hd O
  have HB := hd NB
  clear NB hz O
  go_enter Try.func38, Try.ntmps38
  go_wp2_with fail
  exact bodyPost_ret (res_batch rfl _ _ w.heap.size _ _ _ _ _ rfl Z.out) rfl ⟨w.heap.size + 1, rfl, HO.out.lower (by omega), HB.out⟩

theorem want_is (w : World) : Bs (fun b => w.heap.size ≤ b) (w.alloc (Obj.cells #[Value.int IntKind.u8 1, Value.int IntKind.u8 2, Value.int IntKind.u8 1, Value.int IntKind.u8 3, Value.int IntKind.u8 4, Value.int IntKind.u8 0, Value.int IntKind.u8 5, Value.int IntKind.u8 6, Value.int IntKind.u8 1, Value.int IntKind.u8 97, Value.int IntKind.u8 1, Value.int IntKind.u8 98, Value.int IntKind.u8 0, Value.int IntKind.u8 0] 5)) (Value.slice (some ⟨w.heap.size, 0, none⟩) 14 14) chL :=
  Bs.fresh0 w chL 5 14 (by unfold chL Byt; decide) (by decide) (by decide) _ (Nat.le_refl _)
set_option maxRecDepth 100000 in
set_option maxHeartbeats 8000000 in
/-- The chapter's example holds. -/
theorem works_true (w : World) : Calls Try.prog 19 #[] w fun e w' => VEnd w (.bool true) e w' := by
  have NB := below1 w (Obj.cells #[Value.int IntKind.u8 1, Value.int IntKind.u8 2, Value.int IntKind.u8 1, Value.int IntKind.u8 3, Value.int IntKind.u8 4, Value.int IntKind.u8 0, Value.int IntKind.u8 5, Value.int IntKind.u8 6, Value.int IntKind.u8 1, Value.int IntKind.u8 97, Value.int IntKind.u8 1, Value.int IntKind.u8 98, Value.int IntKind.u8 0, Value.int IntKind.u8 0] 5)
  have W1 : Hid (Bx (w.alloc (Obj.cells #[Value.int IntKind.u8 1, Value.int IntKind.u8 2, Value.int IntKind.u8 1, Value.int IntKind.u8 3, Value.int IntKind.u8 4, Value.int IntKind.u8 0, Value.int IntKind.u8 5, Value.int IntKind.u8 6, Value.int IntKind.u8 1, Value.int IntKind.u8 97, Value.int IntKind.u8 1, Value.int IntKind.u8 98, Value.int IntKind.u8 0, Value.int IntKind.u8 0] 5)).heap.size (w.alloc (Obj.cells #[Value.int IntKind.u8 1, Value.int IntKind.u8 2, Value.int IntKind.u8 1, Value.int IntKind.u8 3, Value.int IntKind.u8 4, Value.int IntKind.u8 0, Value.int IntKind.u8 5, Value.int IntKind.u8 6, Value.int IntKind.u8 1, Value.int IntKind.u8 97, Value.int IntKind.u8 1, Value.int IntKind.u8 98, Value.int IntKind.u8 0, Value.int IntKind.u8 0] 5)) (Value.slice (some ⟨w.heap.size, 0, none⟩) 14 14) chL) := hd (Or.inl ((want_is w).weaken (A' := fun b => b < (w.alloc (Obj.cells #[Value.int IntKind.u8 1, Value.int IntKind.u8 2, Value.int IntKind.u8 1, Value.int IntKind.u8 3, Value.int IntKind.u8 4, Value.int IntKind.u8 0, Value.int IntKind.u8 5, Value.int IntKind.u8 6, Value.int IntKind.u8 1, Value.int IntKind.u8 97, Value.int IntKind.u8 1, Value.int IntKind.u8 98, Value.int IntKind.u8 0, Value.int IntKind.u8 0] 5)).heap.size) (fun b hb _ => hb)))
  have B1 := hd NB
  clear NB
  go_enter Try.func19, Try.ntmps19
  go_wp2_with fail
  generalize w.alloc (Obj.cells #[Value.int IntKind.u8 1, Value.int IntKind.u8 2, Value.int IntKind.u8 1, Value.int IntKind.u8 3, Value.int IntKind.u8 4, Value.int IntKind.u8 0, Value.int IntKind.u8 5, Value.int IntKind.u8 6, Value.int IntKind.u8 1, Value.int IntKind.u8 97, Value.int IntKind.u8 1, Value.int IntKind.u8 98, Value.int IntKind.u8 0, Value.int IntKind.u8 0] 5) = w1 at *
  obtain ⟨gw, hgw⟩ : ∃ g, w.heap.size = g := ⟨_, rfl⟩
  rw [hgw] at W1 ⊢
  have HGW := hd hgw
  clear hgw
  refine (chapter_is w1).mono ?_
  rintro e w2 ⟨b2, rfl, ho, hk⟩
  have S2 := hd ho.sps
  have W2 := hd (W1.out.keep hk)
  have B2 := hd (below_below B1.out hk)
  clear ho hk W1 B1
  go_wp2_with fail
  have HBT := bytesB_any (ag := 1) (sq := 2) S2.out (fun q hq => ch_wf q.1 (by obtain rfl := List.mem_singleton.1 hq; exact List.mem_singleton.2 rfl))
  rw [show (⟨1, 2, spd [(chS, Value.slice none 0 0)]⟩ : BatchD) = chB from rfl, ch_ok, ch_bytes] at HBT
  refine HBT.mono ?_
  rintro e w3 ⟨a3, n3, p3, rfl, hn3, ho3, hk⟩
  have X3 := hd ho3.bs
  have W3 := hd (W2.out.keep hk)
  have B3 := hd (below_below B2.out hk)
  clear HBT ho3 hk W2 B2 S2 hn3
  go_wp2_with fail
  have HPT := parseB_is W3.out (by unfold chL Byt; decide)
  rw [ch_parse] at HPT
  have HPT2 : Calls Try.prog 21 #[Value.slice (some ⟨gw, 0, none⟩) 14 14] w3 fun e w' => ∃ c qs, e = .returned (.tuple #[.agg #[.int .i64 1, .int .i64 2, c], .int .i64 0]) ∧ spd qs = [chS] ∧ OwB w3.heap.size w' c qs ∧ Below w3.heap.size w3 w' := HPT
  clear HPT
  have HPT := HPT2
  clear HPT2
  refine HPT.mono ?_
  rintro e w4 ⟨c, qs, rfl, hqs, ho4, hk⟩
  obtain ⟨x4, p4, rfl⟩ := ho4.form
  obtain ⟨n4, hn4⟩ : ∃ n, qs.length = n := ⟨_, rfl⟩
  rw [hn4] at ho4 ⊢
  have HQ := hd hqs
  have O4 := hd ho4.sps
  have X4 := hd (X3.out.keepB hk)
  have W4 := hd (W3.out.keep hk)
  have B4 := hd (below_below B3.out hk)
  clear HPT hqs ho4 hk X3 W3 B3 hn4
  go_wp2_with fail
  have NB := below1 w4 (Obj.cells #[Value.int IntKind.i64 1, Value.int IntKind.i64 2, Value.slice x4 n4 p4] 24)
  have A5 := hd (Bk.new w4 24 #[Value.int IntKind.i64 1, Value.int IntKind.i64 2, Value.slice x4 n4 p4])
  have O5 := hd (O4.out.keep NB)
  have X5 := hd (X4.out.keepB NB)
  have W5 := hd (W4.out.keep NB)
  have B5 := hd (below_below B4.out NB)
  clear NB O4 X4 W4 B4
  generalize w4.alloc (Obj.cells #[Value.int IntKind.i64 1, Value.int IntKind.i64 2, Value.slice x4 n4 p4] 24) = w5 at *
  generalize w4.heap.size = g5 at *
  have XB5 : Hid (Bx w5.heap.size w5 (Value.slice a3 n3 p3) chL) := hd (Or.inl (X5.out.weaken (A' := fun b => b < w5.heap.size) (fun b hb _ => hb)))
  refine wp_region_each 16 (fun W W' => Below W.heap.size W W') (fun i v W => match i with | 0 => v = Value.int IntKind.i64 0 | 1 => v = Value.bool true | 2 => v = Value.bool true | 3 => v = Value.slice a3 n3 p3 | 4 => v = Value.slice (some ⟨gw, 0, none⟩) 14 14 | 5 => v = Value.bool true | 6 => v = Value.bool true | 7 => v = Value.bool true | 8 => v = Value.int IntKind.i64 0 | 9 => v = Value.bool true | 10 => v = Value.bool true | 11 => v = Value.bool true | 12 => v = Value.agg #[Value.int IntKind.i64 1, Value.int IntKind.i64 2, Value.slice x4 n4 p4] | 13 => ∃ b, v = Value.agg #[Value.int IntKind.i64 1, Value.int IntKind.i64 2, Value.slice (some ⟨b, 0, none⟩) 1 1] ∧ Sps W (Value.slice (some ⟨b, 0, none⟩) 1 1) [(chS, Value.slice none 0 0)] | 14 => v = Value.bool true | 15 => v = Value.bool true | _ => True) (fun vs W => Below w5.heap.size w5 W) (by kernel_rfl) (by kernel_rfl) (fun j v W W' hE h => by
    match j with
    | 0 => exact h
    | 1 => exact h
    | 2 => exact h
    | 3 => exact h
    | 4 => exact h
    | 5 => exact h
    | 6 => exact h
    | 7 => exact h
    | 8 => exact h
    | 9 => exact h
    | 10 => exact h
    | 11 => exact h
    | 12 => exact h
    | 13 => exact (by obtain ⟨b, h1, h2⟩ := h; exact ⟨b, h1, h2.keep hE⟩)
    | 14 => exact h
    | 15 => exact h
    | _ + 16 => trivial) (by exact (Below.refl _ _).drew) ?_ ?_
  · simp only [List.take_succ_cons, List.take_zero]
    refine Each.cons (fun vs W hl => ?_) ?_
    · apply with16 hl
      clear hl vs
      intro v0 v1 v2 v3 v4 v5 v6 v7 v8 v9 v10 v11 v12 v13 v14 v15 hg hnew hd K hK
      clear hd
      clear hnew
      rw [if_pos (by kernel_rfl)]
      simp only [puts, Act.put, List.setIfInBounds_toArray, List.set_cons_zero, List.set_cons_succ] at hK ⊢
      go_simp
      exact hK _ _ (Below.refl _ _) rfl hg
    refine Each.cons (fun vs W hl => ?_) ?_
    · apply with16 hl
      clear hl vs
      intro v0 v1 v2 v3 v4 v5 v6 v7 v8 v9 v10 v11 v12 v13 v14 v15 hg hnew hd K hK
      have d0 : v0 = Value.int IntKind.i64 0 := hd 0 v0 (by kernel_rfl) rfl
      subst d0
      clear hd
      clear hnew
      rw [if_pos (by kernel_rfl)]
      simp only [puts, Act.put, List.setIfInBounds_toArray, List.set_cons_zero, List.set_cons_succ] at hK ⊢
      go_simp
      exact hK _ _ (Below.refl _ _) (by first | rfl | simp) hg
    refine Each.cons (fun vs W hl => ?_) ?_
    · apply with16 hl
      clear hl vs
      intro v0 v1 v2 v3 v4 v5 v6 v7 v8 v9 v10 v11 v12 v13 v14 v15 hg hnew hd K hK
      have d1 : v1 = Value.bool true := hd 1 v1 (by kernel_rfl) rfl
      subst d1
      clear hd
      clear hnew
      rw [if_pos (by kernel_rfl)]
      simp only [puts, Act.put, List.setIfInBounds_toArray, List.set_cons_zero, List.set_cons_succ] at hK ⊢
      go_simp
      exact hK _ _ (Below.refl _ _) rfl hg
    refine Each.cons (fun vs W hl => ?_) ?_
    · apply with16 hl
      clear hl vs
      intro v0 v1 v2 v3 v4 v5 v6 v7 v8 v9 v10 v11 v12 v13 v14 v15 hg hnew hd K hK
      have d2 : v2 = Value.bool true := hd 2 v2 (by kernel_rfl) rfl
      subst d2
      clear hd
      clear hnew
      rw [if_pos (by kernel_rfl)]
      simp only [puts, Act.put, List.setIfInBounds_toArray, List.set_cons_zero, List.set_cons_succ] at hK ⊢
      go_simp
      exact hK _ _ (Below.refl _ _) rfl hg
    refine Each.cons (fun vs W hl => ?_) ?_
    · apply with16 hl
      clear hl vs
      intro v0 v1 v2 v3 v4 v5 v6 v7 v8 v9 v10 v11 v12 v13 v14 v15 hg hnew hd K hK
      have d2 : v2 = Value.bool true := hd 2 v2 (by kernel_rfl) rfl
      subst d2
      clear hd
      clear hnew
      rw [if_pos (by kernel_rfl)]
      simp only [puts, Act.put, List.setIfInBounds_toArray, List.set_cons_zero, List.set_cons_succ] at hK ⊢
      go_simp
      exact hK _ _ (Below.refl _ _) rfl hg
    refine Each.cons (fun vs W hl => ?_) ?_
    · apply with16 hl
      clear hl vs
      intro v0 v1 v2 v3 v4 v5 v6 v7 v8 v9 v10 v11 v12 v13 v14 v15 hg hnew hd K hK
      have d2 : v2 = Value.bool true := hd 2 v2 (by kernel_rfl) rfl
      subst d2
      have d3 : v3 = Value.slice a3 n3 p3 := hd 3 v3 (by kernel_rfl) rfl
      subst d3
      have d4 : v4 = Value.slice (some ⟨gw, 0, none⟩) 14 14 := hd 4 v4 (by kernel_rfl) rfl
      subst d4
      clear hd
      clear hnew
      rw [if_pos (by kernel_rfl)]
      simp only [puts, Act.put, List.setIfInBounds_toArray, List.set_cons_zero, List.set_cons_succ] at hK ⊢
      go_simp
      refine (eq_sx (XB5.out.keep hg) (W5.out.keep hg)).mono ?_
      rintro e w' ⟨rfl, m, rfl⟩
      have hk := below_drewN (Below.refl W.heap.size W) m
      exact hK _ _ hk rfl (below_below hg hk)
    refine Each.cons (fun vs W hl => ?_) ?_
    · apply with16 hl
      clear hl vs
      intro v0 v1 v2 v3 v4 v5 v6 v7 v8 v9 v10 v11 v12 v13 v14 v15 hg hnew hd K hK
      have d2 : v2 = Value.bool true := hd 2 v2 (by kernel_rfl) rfl
      subst d2
      have d5 : v5 = Value.bool true := hd 5 v5 (by kernel_rfl) rfl
      subst d5
      clear hd
      clear hnew
      rw [if_pos (by kernel_rfl)]
      simp only [puts, Act.put, List.setIfInBounds_toArray, List.set_cons_zero, List.set_cons_succ] at hK ⊢
      go_simp
      exact hK _ _ (Below.refl _ _) rfl hg
    refine Each.cons (fun vs W hl => ?_) ?_
    · apply with16 hl
      clear hl vs
      intro v0 v1 v2 v3 v4 v5 v6 v7 v8 v9 v10 v11 v12 v13 v14 v15 hg hnew hd K hK
      have d6 : v6 = Value.bool true := hd 6 v6 (by kernel_rfl) rfl
      subst d6
      clear hd
      clear hnew
      rw [if_pos (by kernel_rfl)]
      simp only [puts, Act.put, List.setIfInBounds_toArray, List.set_cons_zero, List.set_cons_succ] at hK ⊢
      go_simp
      exact hK _ _ (Below.refl _ _) rfl hg
    refine Each.cons (fun vs W hl => ?_) ?_
    · apply with16 hl
      clear hl vs
      intro v0 v1 v2 v3 v4 v5 v6 v7 v8 v9 v10 v11 v12 v13 v14 v15 hg hnew hd K hK
      have d7 : v7 = Value.bool true := hd 7 v7 (by kernel_rfl) rfl
      subst d7
      clear hd
      clear hnew
      rw [if_pos (by kernel_rfl)]
      simp only [puts, Act.put, List.setIfInBounds_toArray, List.set_cons_zero, List.set_cons_succ] at hK ⊢
      go_simp
      exact hK _ _ (Below.refl _ _) rfl hg
    refine Each.cons (fun vs W hl => ?_) ?_
    · apply with16 hl
      clear hl vs
      intro v0 v1 v2 v3 v4 v5 v6 v7 v8 v9 v10 v11 v12 v13 v14 v15 hg hnew hd K hK
      have d7 : v7 = Value.bool true := hd 7 v7 (by kernel_rfl) rfl
      subst d7
      have d8 : v8 = Value.int IntKind.i64 0 := hd 8 v8 (by kernel_rfl) rfl
      subst d8
      clear hd
      clear hnew
      rw [if_pos (by kernel_rfl)]
      simp only [puts, Act.put, List.setIfInBounds_toArray, List.set_cons_zero, List.set_cons_succ] at hK ⊢
      go_simp
      exact hK _ _ (Below.refl _ _) (by first | rfl | simp) hg
    refine Each.cons (fun vs W hl => ?_) ?_
    · apply with16 hl
      clear hl vs
      intro v0 v1 v2 v3 v4 v5 v6 v7 v8 v9 v10 v11 v12 v13 v14 v15 hg hnew hd K hK
      have d7 : v7 = Value.bool true := hd 7 v7 (by kernel_rfl) rfl
      subst d7
      have d9 : v9 = Value.bool true := hd 9 v9 (by kernel_rfl) rfl
      subst d9
      clear hd
      clear hnew
      rw [if_pos (by kernel_rfl)]
      simp only [puts, Act.put, List.setIfInBounds_toArray, List.set_cons_zero, List.set_cons_succ] at hK ⊢
      go_simp
      exact hK _ _ (Below.refl _ _) rfl hg
    refine Each.cons (fun vs W hl => ?_) ?_
    · apply with16 hl
      clear hl vs
      intro v0 v1 v2 v3 v4 v5 v6 v7 v8 v9 v10 v11 v12 v13 v14 v15 hg hnew hd K hK
      have d10 : v10 = Value.bool true := hd 10 v10 (by kernel_rfl) rfl
      subst d10
      clear hd
      clear hnew
      rw [if_pos (by kernel_rfl)]
      simp only [puts, Act.put, List.setIfInBounds_toArray, List.set_cons_zero, List.set_cons_succ] at hK ⊢
      go_simp
      exact hK _ _ (Below.refl _ _) rfl hg
    refine Each.cons (fun vs W hl => ?_) ?_
    · apply with16 hl
      clear hl vs
      intro v0 v1 v2 v3 v4 v5 v6 v7 v8 v9 v10 v11 v12 v13 v14 v15 hg hnew hd K hK
      have d11 : v11 = Value.bool true := hd 11 v11 (by kernel_rfl) rfl
      subst d11
      clear hd
      clear hnew
      rw [if_pos (by kernel_rfl)]
      simp only [puts, Act.put, List.setIfInBounds_toArray, List.set_cons_zero, List.set_cons_succ] at hK ⊢
      have c := A5.out.keep hg
      have c0 := c.cell 0
      have c1 := c.cell 1
      have c2 := c.cell 2
      simp at c0 c1 c2
      go_simp
      exact hK _ _ (Below.refl _ _) rfl hg
    refine Each.cons (fun vs W hl => ?_) ?_
    · apply with16 hl
      clear hl vs
      intro v0 v1 v2 v3 v4 v5 v6 v7 v8 v9 v10 v11 v12 v13 v14 v15 hg hnew hd K hK
      have d11 : v11 = Value.bool true := hd 11 v11 (by kernel_rfl) rfl
      subst d11
      clear hd
      clear hnew
      rw [if_pos (by kernel_rfl)]
      simp only [puts, Act.put, List.setIfInBounds_toArray, List.set_cons_zero, List.set_cons_succ] at hK ⊢
      go_simp
      refine (chapter_is W).mono ?_
      rintro e w' ⟨b, rfl, ho, hk⟩
      exact hK _ _ hk ⟨b, rfl, ho.sps⟩ (below_below hg hk)
    refine Each.cons (fun vs W hl => ?_) ?_
    · apply with16 hl
      clear hl vs
      intro v0 v1 v2 v3 v4 v5 v6 v7 v8 v9 v10 v11 v12 v13 v14 v15 hg hnew hd K hK
      have d11 : v11 = Value.bool true := hd 11 v11 (by kernel_rfl) rfl
      subst d11
      have d12 : v12 = Value.agg #[Value.int IntKind.i64 1, Value.int IntKind.i64 2, Value.slice x4 n4 p4] := hd 12 v12 (by kernel_rfl) rfl
      subst d12
      have d13 : ∃ b, v13 = Value.agg #[Value.int IntKind.i64 1, Value.int IntKind.i64 2, Value.slice (some ⟨b, 0, none⟩) 1 1] ∧ Sps W (Value.slice (some ⟨b, 0, none⟩) 1 1) [(chS, Value.slice none 0 0)] := hd 13 v13 (by kernel_rfl) rfl
      clear hd
      clear hnew
      rw [if_pos (by kernel_rfl)]
      simp only [puts, Act.put, List.setIfInBounds_toArray, List.set_cons_zero, List.set_cons_succ] at hK ⊢
      obtain ⟨b, rfl, hs⟩ := d13
      have hsm := rsameB_any 1 2 1 2 (O5.out.keep hg) hs
      rw [HQ.out, show sameBt ⟨1, 2, [chS]⟩ ⟨1, 2, spd [(chS, Value.slice none 0 0)]⟩ = true from by decide +kernel] at hsm
      go_simp
      refine hsm.mono ?_
      clear hsm
      rintro e w' ⟨rfl, hk⟩
      exact hK _ _ hk rfl (below_below hg hk)
    refine Each.cons (fun vs W hl => ?_) ?_
    · apply with16 hl
      clear hl vs
      intro v0 v1 v2 v3 v4 v5 v6 v7 v8 v9 v10 v11 v12 v13 v14 v15 hg hnew hd K hK
      have d11 : v11 = Value.bool true := hd 11 v11 (by kernel_rfl) rfl
      subst d11
      have d14 : v14 = Value.bool true := hd 14 v14 (by kernel_rfl) rfl
      subst d14
      clear hd
      clear hnew
      rw [if_pos (by kernel_rfl)]
      simp only [puts, Act.put, List.setIfInBounds_toArray, List.set_cons_zero, List.set_cons_succ] at hK ⊢
      go_simp
      exact hK _ _ (Below.refl _ _) rfl hg
    exact Each.nil
  · intro vs W hl
    apply with16 hl
    clear hl vs
    intro v0 v1 v2 v3 v4 v5 v6 v7 v8 v9 v10 v11 v12 v13 v14 v15 hg hall
    have d0 : v0 = Value.int IntKind.i64 0 := hall 0 v0 rfl
    subst d0
    have d1 : v1 = Value.bool true := hall 1 v1 rfl
    subst d1
    have d2 : v2 = Value.bool true := hall 2 v2 rfl
    subst d2
    have d3 : v3 = Value.slice a3 n3 p3 := hall 3 v3 rfl
    subst d3
    have d4 : v4 = Value.slice (some ⟨gw, 0, none⟩) 14 14 := hall 4 v4 rfl
    subst d4
    have d5 : v5 = Value.bool true := hall 5 v5 rfl
    subst d5
    have d6 : v6 = Value.bool true := hall 6 v6 rfl
    subst d6
    have d7 : v7 = Value.bool true := hall 7 v7 rfl
    subst d7
    have d8 : v8 = Value.int IntKind.i64 0 := hall 8 v8 rfl
    subst d8
    have d9 : v9 = Value.bool true := hall 9 v9 rfl
    subst d9
    have d10 : v10 = Value.bool true := hall 10 v10 rfl
    subst d10
    have d11 : v11 = Value.bool true := hall 11 v11 rfl
    subst d11
    have d12 : v12 = Value.agg #[Value.int IntKind.i64 1, Value.int IntKind.i64 2, Value.slice x4 n4 p4] := hall 12 v12 rfl
    subst d12
    have d13 : ∃ b, v13 = Value.agg #[Value.int IntKind.i64 1, Value.int IntKind.i64 2, Value.slice (some ⟨b, 0, none⟩) 1 1] ∧ Sps W (Value.slice (some ⟨b, 0, none⟩) 1 1) [(chS, Value.slice none 0 0)] := hall 13 v13 rfl
    have d14 : v14 = Value.bool true := hall 14 v14 rfl
    subst d14
    have d15 : v15 = Value.bool true := hall 15 v15 rfl
    subst d15
    clear hall
    simp only [puts, Act.put, List.setIfInBounds_toArray, List.set_cons_zero, List.set_cons_succ, List.take_succ_cons, List.take_zero, List.drop_succ_cons, List.drop_zero]
    have BR := hd (below_below B5.out hg)
    clear hg
    go_wp2_with fail
    go_ret
    exact VEnd.mk BR.out

end Go.Proofs.Yteifaipbckhoiaa
