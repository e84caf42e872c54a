/- BatchLess: the law's walk. -/
import Derived.Test.YteifaipbckhoiaaLsb
import Derived.Test.YteifaipbckhoiaaVz
import Derived.Deep.Cut
namespace Go.Proofs.Yteifaipbckhoiaa
open Go.RowKit
set_option linter.unusedVariables false

set_option maxRecDepth 100000 in
set_option maxHeartbeats 16000000 in
theorem less_walk {w : World} {c : Value} {qs : List SpanV} {ag sq at_ by_ : Int} (h : BatIn w ag sq c qs) (hat : -9223372036854775808 ≤ at_ ∧ at_ ≤ 9223372036854775807) (hby : -9223372036854775808 ≤ by_ ∧ by_ ≤ 9223372036854775807) :
    Calls Try.prog 7 #[.agg #[.int .i64 ag, .int .i64 sq, c], .int .i64 at_, .int .i64 by_] w fun e w' => VEnd w (.bool true) e w' := by
  obtain ⟨xa, ca, rfl⟩ := h.sps.el.form
  obtain ⟨n, hn⟩ : ∃ n, qs.length = n := ⟨_, rfl⟩
  have HW := hd h.wf
  have HRM := hd h.room
  have HP0 := hd h.sps
  rw [hn] at HP0 ⊢
  have HN := hd hn
  obtain ⟨bb, hbb⟩ : ∃ b : BatchD, (⟨ag, sq, spd qs⟩ : BatchD) = b := ⟨_, rfl⟩
  have HBB := hd hbb
  have HAT := hd hat
  have HBY := hd hby
  clear hn h hbb hat hby
  have NB := below1 w (Obj.cells #[Value.int IntKind.i64 ag, Value.int IntKind.i64 sq, Value.slice xa n ca] 24)
  have A0 := hd (Bk.new w 24 #[Value.int IntKind.i64 ag, Value.int IntKind.i64 sq, Value.slice xa n ca])
  have P0 := hd (HP0.out.keep NB)
  have B0 := hd (NB)
  clear NB
  go_enter Try.func7, Try.ntmps7
  go_wp2_with fail
  generalize w.alloc (Obj.cells #[Value.int IntKind.i64 ag, Value.int IntKind.i64 sq, Value.slice xa n ca] 24) = w1 at *
  obtain ⟨g, hg⟩ : ∃ g, w.heap.size = g := ⟨_, rfl⟩
  rw [hg] at A0 ⊢
  have HG := hd hg
  clear hg
  refine (works_true w1).mono ?_
  rintro e w2 ⟨rfl, hk⟩
  have A1 := hd (A0.out.keep hk)
  have P1 := hd (P0.out.keep hk)
  have B1 := hd (below_below B0.out hk)
  clear A0 P0 B0 hk
  have a0 := A1.out.cell 0
  have a1 := A1.out.cell 1
  have a2 := A1.out.cell 2
  simp at a0 a1 a2
  go_wp2_with fail
  have HC := checkB_any (ag := ag) (sq := sq) P1.out HW.out
  rw [HBB.out] at HC
  cases hok : okB bb
  · have HOK := hd hok
    rw [hok] at HC
    simp only [Bool.false_eq_true, if_false] at HC
    clear hok
    refine HC.mono ?_
    rintro e w3 ⟨rfl, hk⟩
    have A2 := hd (A1.out.keep hk)
    have P2 := hd (P1.out.keep hk)
    have B2 := hd (below_below B1.out hk)
    clear A1 P1 B1 HC hk a0 a1 a2
    have a0 := A2.out.cell 0
    have a1 := A2.out.cell 1
    have a2 := A2.out.cell 2
    simp at a0 a1 a2
    go_wp2_with fail
    have HC := checkB_any (ag := ag) (sq := sq) P2.out HW.out
    rw [HBB.out, HOK.out] at HC
    simp only [Bool.false_eq_true, if_false] at HC
    refine HC.mono ?_
    rintro e w4 ⟨rfl, hk⟩
    have A3 := hd (A2.out.keep hk)
    have P3 := hd (P2.out.keep hk)
    have B3 := hd (below_below B2.out hk)
    clear A2 P2 B2 HC hk a0 a1 a2
    go_wp2_with fail
    go_ret
    exact VEnd.mk B3.out
  have HOK := hd hok
  rw [hok] at HC
  simp only [if_true] at HC
  have HNN : Hid (1 ≤ n ∧ n ≤ 16) := hd (by have h := (okB_parts hok).2.2.1; rw [← HBB.out] at h; simp only [spd_len] at h; rw [HN.out] at h; exact h)
  clear hok
  refine HC.mono ?_
  rintro e w5 ⟨rfl, hk⟩
  have A2 := hd (A1.out.keep hk)
  have P2 := hd (P1.out.keep hk)
  have B2 := hd (below_below B1.out hk)
  clear A1 P1 B1 HC hk a0 a1 a2
  have a0 := A2.out.cell 0
  have a1 := A2.out.cell 1
  have a2 := A2.out.cell 2
  simp at a0 a1 a2
  have hn0 : ((n : Int) == 0) = false := by rw [beq_eq_false_iff_ne]; have := HNN.out; omega
  go_wp2_with fail
  clear a0 a1 a2
  refine wp_region_eachL 6 (fun _ _ => True) (fun i v W => match i with | 0 => v = Value.agg #[Value.int IntKind.i64 ag, Value.int IntKind.i64 sq, Value.slice xa n ca] | 1 => True | 2 => v = Value.agg #[Value.int IntKind.i64 ag, Value.int IntKind.i64 sq, Value.slice xa n ca] | 3 => True | 4 => True | 5 => True | _ => True) (fun L vs W => Cp5 w5 ag sq (spd qs) n (L 1) (L 3) (L 4) (L 5) (vs.getD 1 undef) (vs.getD 3 undef) (vs.getD 4 undef) (vs.getD 5 undef) W) (by kernel_rfl) (by kernel_rfl) (fun j v W W' hE h => h) (Cp5.init _ _ _ _ _ _ _ _ _) ?_ ?_
  · simp only [List.take_succ_cons, List.take_zero]
    refine EachL.start (fun A hA => ?_)
    have PUTS : ∀ v0 v1 v2 v3 v4 v5 : Value, A [v0, v1, v2, v3, v4, v5] = A [v0, v1, v2, v3, v4, v5] := fun v0 v1 v2 v3 v4 v5 => rfl
    conv at PUTS => intro v0 v1 v2 v3 v4 v5; rhs; rw [hA]; simp only [puts, Act.put, List.setIfInBounds_toArray, List.set_cons_zero, List.set_cons_succ]
    refine EachL.consA A hA (fun vs W L hl => ?_) ?_
    · apply with6 hl
      clear hl vs
      intro v0 v1 v2 v3 v4 v5 hg hd hno hcl hdp K hK
      clear hd
      rw [if_pos (by rw [PUTS]; kernel_rfl)]
      simp only [PUTS, Act.put, List.setIfInBounds_toArray, List.set_cons_zero, List.set_cons_succ] at hK ⊢
      have c := A2.out.keep hg.1
      have c0 := c.cell 0
      have c1 := c.cell 1
      have c2 := c.cell 2
      simp at c0 c1 c2
      go_simp
      exact hK _ _ trivial rfl hg
    refine EachL.consA A hA (fun vs W L hl => ?_) ?_
    · apply with6 hl
      clear hl vs
      intro v0 v1 v2 v3 v4 v5 hg hd hno hcl hdp K hK
      have d0 : v0 = Value.agg #[Value.int IntKind.i64 ag, Value.int IntKind.i64 sq, Value.slice xa n ca] := hd 0 v0 (by kernel_rfl) rfl
      subst d0
      clear hd
      rw [if_pos (by rw [PUTS]; kernel_rfl)]
      simp only [PUTS, Act.put, List.setIfInBounds_toArray, List.set_cons_zero, List.set_cons_succ] at hK ⊢
      go_simp
      refine (copyB_is ag sq (P2.out.keep hg.1) HRM.out).mono ?_
      intro e w' hc
      obtain ⟨vc, rfl, hv, hk⟩ := CopV.of HN.out hc
      rw [hno] at hg
      exact hK _ _ trivial trivial (Cp5.c1 hg hk hv)
    refine EachL.consA A hA (fun vs W L hl => ?_) ?_
    · apply with6 hl
      clear hl vs
      intro v0 v1 v2 v3 v4 v5 hg hd hno hcl hdp K hK
      clear hd
      rw [if_pos (by rw [PUTS]; kernel_rfl)]
      simp only [PUTS, Act.put, List.setIfInBounds_toArray, List.set_cons_zero, List.set_cons_succ] at hK ⊢
      have c := A2.out.keep hg.1
      have c0 := c.cell 0
      have c1 := c.cell 1
      have c2 := c.cell 2
      simp at c0 c1 c2
      go_simp
      exact hK _ _ trivial rfl hg
    refine EachL.consA A hA (fun vs W L hl => ?_) ?_
    · apply with6 hl
      clear hl vs
      intro v0 v1 v2 v3 v4 v5 hg hd hno hcl hdp K hK
      have d2 : v2 = Value.agg #[Value.int IntKind.i64 ag, Value.int IntKind.i64 sq, Value.slice xa n ca] := hd 2 v2 (by kernel_rfl) rfl
      subst d2
      clear hd
      rw [if_pos (by rw [PUTS]; kernel_rfl)]
      simp only [PUTS, Act.put, List.setIfInBounds_toArray, List.set_cons_zero, List.set_cons_succ] at hK ⊢
      go_simp
      refine (copyB_is ag sq (P2.out.keep hg.1) HRM.out).mono ?_
      intro e w' hc
      obtain ⟨vc, rfl, hv, hk⟩ := CopV.of HN.out hc
      rw [hno] at hg
      exact hK _ _ trivial trivial (Cp5.c3 hg hk hv)
    refine EachL.consA A hA (fun vs W L hl => ?_) ?_
    · apply with6 hl
      clear hl vs
      intro v0 v1 v2 v3 v4 v5 hg hd hno hcl hdp K hK
      clear hd
      rw [if_pos (by rw [PUTS]; kernel_rfl)]
      simp only [PUTS, Act.put, List.setIfInBounds_toArray, List.set_cons_zero, List.set_cons_succ] at hK ⊢
      rw [hno] at hg
      go_simp
      exact hK _ _ trivial trivial (Cp5.c4 hg)
    refine EachL.consA A hA (fun vs W L hl => ?_) ?_
    · apply with6 hl
      clear hl vs
      intro v0 v1 v2 v3 v4 v5 hg hd hno hcl hdp K hK
      clear hd
      rw [if_pos (by rw [PUTS]; kernel_rfl)]
      simp only [PUTS, Act.put, List.setIfInBounds_toArray, List.set_cons_zero, List.set_cons_succ] at hK ⊢
      rw [hno] at hg
      go_simp
      exact hK _ _ trivial trivial (Cp5.c5 hg)
    exact EachL.nil
  · intro vs W L hl
    apply with6 hl
    clear hl vs
    intro v0 v1 v2 v3 v4 v5 hall0 hg hall
    have d0 : v0 = Value.agg #[Value.int IntKind.i64 ag, Value.int IntKind.i64 sq, Value.slice xa n ca] := hall 0 v0 rfl
    subst d0
    have d1 : True := hall 1 v1 rfl
    have d2 : v2 = Value.agg #[Value.int IntKind.i64 ag, Value.int IntKind.i64 sq, Value.slice xa n ca] := hall 2 v2 rfl
    subst d2
    have d3 : True := hall 3 v3 rfl
    have d4 : True := hall 4 v4 rfl
    have d5 : True := hall 5 v5 rfl
    clear hall
    simp only [puts, Act.put, List.setIfInBounds_toArray, List.set_cons_zero, List.set_cons_succ, List.take_succ_cons, List.take_zero, List.drop_succ_cons, List.drop_zero]
    rw [hall0 1 (by decide), hall0 3 (by decide), hall0 4 (by decide), hall0 5 (by decide)] at hg
    obtain ⟨hb, lo1, hi1, lo3, hi3, g1, g3, g13, g4, g5, g45⟩ := hg
    obtain ⟨hlo1, hhi1, xc, cc, ps, ec, hpn, hps, hco, hcl, hca⟩ := g1 rfl
    obtain ⟨hlo3, hhi3, xd, dc, rs, ed, hrn, hrs, hdo, hdl, hda⟩ := g3 rfl
    obtain ⟨b4, e4, hb4, k4⟩ := g4 rfl
    obtain ⟨b5, e5, hb5, k5⟩ := g5 rfl
    have h13 := g13 rfl rfl
    have h45 := g45 rfl rfl
    have ec' : v1 = _ := ec
    have ed' : v3 = _ := ed
    have e4' : v4 = _ := e4
    have e5' : v5 = _ := e5
    subst ec' ed' e4' e5'
    clear ec ed e4 e5 g1 g3 g13 g4 g5 g45 d1 d3 d4 d5 hall0
    have hne : b4 ≠ b5 := fun e => h45 (by subst e; rfl)
    have hne' : b5 ≠ b4 := fun e => hne e.symm
    obtain ⟨gc, capc, cur, hcv, hgc, kc, hcap, hrow⟩ := hco.own.open_ (by have := HNN.out; omega)
    rw [hpn] at hcv hcap
    injection hcv with q1 q2 q3
    subst q1 q3
    obtain ⟨gd, capd, curd, hdv, hgd, kd, hcapd, hrowd⟩ := hdo.own.open_ (by have := HNN.out; omega)
    rw [hrn] at hdv hcapd
    injection hdv with q1 q2 q3
    subst q1 q3
    have HPN := hd hpn; have HPS := hd hps; have HRN := hd hrn; have HRS := hd hrs
    have HDJ : Hid (gd ≠ gc ∧ ∀ q ∈ rs, ∀ j, q.2.ownBlock = some j → j ≠ gc) := hd (by
      have hcl' := hcl gc rfl
      have hcg := (hco.own.2.lt gc rfl).1
      have hdl' := hdl gd rfl
      have hdg := (hdo.own.2.lt gd rfl).1
      refine ⟨by rcases h13 with h | h <;> omega, fun q hq j hj => ?_⟩
      have h1 := hda q hq j hj
      have h2 := ((hdo.ats q hq).2.lt j hj).1
      rcases h13 with h | h <;> omega)
    have HLO : Hid (w5.heap.size ≤ gc ∧ w5.heap.size ≤ b4 ∧ w5.heap.size ≤ b5 ∧ w5.heap.size ≤ gd ∧ g < w5.heap.size) := hd ⟨by have := (hco.own.2.lt gc rfl).1; omega, hb4, hb5, by have := (hdo.own.2.lt gd rfl).1; omega, A2.out.lt⟩
    have HT4 := hd (Bk.ne kc k4 (by decide))
    have HT5 := hd (Bk.ne kc k5 (by decide))
    have HO4 := hd (hdo.ne k4 (by decide) (by decide))
    have HO5 := hd (hdo.ne k5 (by decide) (by decide))
    have HKC := hd kc; have HRW := hd hrow; have HDO := hd hdo; have HCAP := hd hcap; have HBW := hd hb; have HK4 := hd k4; have HK5 := hd k5; have HNE := hd (And.intro hne hne')
    have HCD := hd hcapd
    clear hlo1 hhi1 hcl hca hlo3 hhi3 hdl hda h13 h45 hb4 hb5 hgc hgd hrow hrowd kd hdo hcap hcapd hco hpn hps hrn hrs kc hb
    have c40 := HK4.out.cell 0
    have c41 := HK4.out.cell 1
    have c42 := HK4.out.cell 2
    have f40 := HK4.out.fz 0
    have f41 := HK4.out.fz 1
    have f42 := HK4.out.fz 2
    have c50 := HK5.out.cell 0
    have c51 := HK5.out.cell 1
    have c52 := HK5.out.cell 2
    have f50 := HK5.out.fz 0
    have f51 := HK5.out.fz 1
    have f52 := HK5.out.fz 2
    simp at c40 c41 c42 c50 c51 c52
    clear k4 k5
    go_upto_region 6 with fail
    have kz4 : Kp (fun b => b = b4) W (((W.setCell ⟨b4, 0, none⟩ (.int .i64 ag)).setCell ⟨b4, 1, none⟩ (.int .i64 sq)).setCell ⟨b4, 2, none⟩ (Value.slice (some ⟨gc, 0, none⟩) n cc)) := ((kp_set1 W b4 0 (.int .i64 ag)).setCell ⟨b4, 1, none⟩ (.int .i64 sq) (fun _ => rfl)).setCell ⟨b4, 2, none⟩ (Value.slice (some ⟨gc, 0, none⟩) n cc) (fun _ => rfl)
    have kz5 : Kp (fun b => b = b5) (((W.setCell ⟨b4, 0, none⟩ (.int .i64 ag)).setCell ⟨b4, 1, none⟩ (.int .i64 sq)).setCell ⟨b4, 2, none⟩ (Value.slice (some ⟨gc, 0, none⟩) n cc)) ((((((W.setCell ⟨b4, 0, none⟩ (.int .i64 ag)).setCell ⟨b4, 1, none⟩ (.int .i64 sq)).setCell ⟨b4, 2, none⟩ (Value.slice (some ⟨gc, 0, none⟩) n cc)).setCell ⟨b5, 0, none⟩ (.int .i64 ag)).setCell ⟨b5, 1, none⟩ (.int .i64 sq)).setCell ⟨b5, 2, none⟩ (Value.slice (some ⟨gd, 0, none⟩) n dc)) := ((kp_set1 (((W.setCell ⟨b4, 0, none⟩ (.int .i64 ag)).setCell ⟨b4, 1, none⟩ (.int .i64 sq)).setCell ⟨b4, 2, none⟩ (Value.slice (some ⟨gc, 0, none⟩) n cc)) b5 0 (.int .i64 ag)).setCell ⟨b5, 1, none⟩ (.int .i64 sq) (fun _ => rfl)).setCell ⟨b5, 2, none⟩ (Value.slice (some ⟨gd, 0, none⟩) n dc) (fun _ => rfl)
    have C6 : Hid (Bk ((((((W.setCell ⟨b4, 0, none⟩ (.int .i64 ag)).setCell ⟨b4, 1, none⟩ (.int .i64 sq)).setCell ⟨b4, 2, none⟩ (Value.slice (some ⟨gc, 0, none⟩) n cc)).setCell ⟨b5, 0, none⟩ (.int .i64 ag)).setCell ⟨b5, 1, none⟩ (.int .i64 sq)).setCell ⟨b5, 2, none⟩ (Value.slice (some ⟨gd, 0, none⟩) n dc)) b4 24 #[Value.int IntKind.i64 ag, Value.int IntKind.i64 sq, Value.slice (some ⟨gc, 0, none⟩) n cc]) := hd (kz5.bk (HK4.out.set3 _ _ _) HNE.out.1)
    have D6 : Hid (Bk ((((((W.setCell ⟨b4, 0, none⟩ (.int .i64 ag)).setCell ⟨b4, 1, none⟩ (.int .i64 sq)).setCell ⟨b4, 2, none⟩ (Value.slice (some ⟨gc, 0, none⟩) n cc)).setCell ⟨b5, 0, none⟩ (.int .i64 ag)).setCell ⟨b5, 1, none⟩ (.int .i64 sq)).setCell ⟨b5, 2, none⟩ (Value.slice (some ⟨gd, 0, none⟩) n dc)) b5 24 #[Value.int IntKind.i64 ag, Value.int IntKind.i64 sq, Value.slice (some ⟨gd, 0, none⟩) n dc]) := hd ((kz4.bk HK5.out HNE.out.2).set3 _ _ _)
    have KC6 := hd (kz5.bk (kz4.bk HKC.out HT4.out) HT5.out)
    have O6 := hd ((HDO.out.kpx kz4 HO4.out.1 HO4.out.2).kpx kz5 HO5.out.1 HO5.out.2)
    have B6 := hd ((HBW.out.trans (kz4.below w5.heap.size HBW.out.size (fun k hk e => by have := HLO.out; omega))).trans (kz5.below w5.heap.size (Nat.le_trans HBW.out.size kz4.size) (fun k hk e => by have := HLO.out; omega)))
    clear kz4 kz5 HK4 HK5 HKC HDO HBW HO4 HO5
    clear c40 c41 c42 f40 f41 f42 c50 c51 c52 f50 f51 f52 hne hne'
    generalize ((((((W.setCell ⟨b4, 0, none⟩ (.int .i64 ag)).setCell ⟨b4, 1, none⟩ (.int .i64 sq)).setCell ⟨b4, 2, none⟩ (Value.slice (some ⟨gc, 0, none⟩) n cc)).setCell ⟨b5, 0, none⟩ (.int .i64 ag)).setCell ⟨b5, 1, none⟩ (.int .i64 sq)).setCell ⟨b5, 2, none⟩ (Value.slice (some ⟨gd, 0, none⟩) n dc)) = w6 at *
    have A3 := hd (A2.out.keep B6.out)
    have P3 := hd (P2.out.keep B6.out)
    have B3 := hd (below_below B2.out B6.out)
    clear A2 P2 B2 
    have a0 := A3.out.cell 0
    have a1 := A3.out.cell 1
    have a2 := A3.out.cell 2
    simp at a0 a1 a2
    
    obtain ⟨r, hrn, hbr⟩ := bring_nat by_ n HBY.out.1 HBY.out.2 (by have := HNN.out; omega) (by have := HNN.out; omega)
    obtain ⟨r2, hr2n, hbr2⟩ := bring_nat at_ n HAT.out.1 HAT.out.2 (by have := HNN.out; omega) (by have := HNN.out; omega)
    have HBR := hd hbr
    have HBR2 := hd hbr2
    have HRR := hd hrn
    have HRR2 := hd hr2n
    clear hbr hbr2 hrn hr2n
    obtain ⟨TQ, hTQ⟩ : ∃ TQ, turnV qs r = TQ := ⟨_, rfl⟩
    have HTQ := hd hTQ
    have HTN : Hid (TQ.length = n) := hd (by rw [← hTQ, turnV_len, HN.out])
    clear hTQ
    go_wp2_with fail
    clear a0 a1 a2
    go_loopw [10] (fun i wr => ∃ (k : Nat) (cur : Array Value), k ≤ n ∧ i = .int .i64 (k : Int) ∧ Below w.heap.size w wr ∧ Bk wr g 24 #[Value.int IntKind.i64 ag, Value.int IntKind.i64 sq, Value.slice xa n ca] ∧ Bk wr b4 24 #[Value.int IntKind.i64 ag, Value.int IntKind.i64 sq, Value.slice (some ⟨gc, 0, none⟩) n cc] ∧ Bk wr b5 24 #[Value.int IntKind.i64 ag, Value.int IntKind.i64 sq, Value.slice (some ⟨gd, 0, none⟩) n dc] ∧ OwB lo3 wr (Value.slice (some ⟨gd, 0, none⟩) n dc) rs ∧ Bk wr gc 33 cur ∧ RowOf cur (TQ.take k ++ ps.drop k)) (fun i _ => n - (intOf i).toNat)
    case atStart => exact ⟨0, cur, Nat.zero_le _, rfl, B3.out, A3.out, C6.out, D6.out, O6.out, KC6.out, by rw [List.take_zero, List.drop_zero]; exact HRW.out⟩
    case round =>
      obtain ⟨k, cur, hkn, rfl, hb, ha, hc, hdd, ho, hkc, hrw⟩ := hrel
      have HB := hd hb; have HA := hd ha; have HC := hd hc; have HD := hd hdd; have HO := hd ho; have HKC := hd hkc; have HRO := hd hrw
      clear hb ha hc hdd ho hkc hrw A3 P3 B3 C6 D6 O6 KC6 HRW
      have a2 := HA.out.cell 2
      simp at a2
      by_cases hlt : k < n
      · have hlz : (k : Int) < (n : Int) := by omega
        have hxk : k < qs.length := by rw [HN.out]; exact hlt
        obtain ⟨⟨⟨tr, sid, pa, st, ln, sv, op, sb, ats⟩, v⟩, he1⟩ : ∃ r : SpanV, qs[k]'(by omega) = r := ⟨_, rfl⟩
        obtain ⟨gx, off, hx, hcx, h47', d0, d1, d2, d3, d4, d5, d6, d7, d8, hel⟩ := HP0.out.atS HB.out HN.out hlt he1
        subst hx
        obtain ⟨vx, vc, hv⟩ := hel.form
        obtain ⟨m8, hm8⟩ : ∃ m, ats.length = m := ⟨_, rfl⟩
        rw [hm8] at hv
        subst hv
        have HOS : Hid (okS ⟨tr, sid, pa, st, ln, sv, op, sb, ats⟩ = true) := hd (by
          have h := (okB_parts HOK.out).2.2.2.1 ⟨tr, sid, pa, st, ln, sv, op, sb, ats⟩
          rw [← HBB.out] at h
          exact h (List.mem_map.2 ⟨_, List.getElem_mem hxk, by rw [he1]⟩))
        have HWS : Hid (∀ a ∈ ats, WfA a) := hd (by have := HW.out _ (List.getElem_mem hxk); rw [he1] at this; exact this)
        have HE := hd (hel.keep HB.out)
        clear he1 hel hm8
        go_wp2_with fail
        have hcs := checkS_cells tr sid pa st ln sv op sb ats _ wr HE.out HWS.out
        rw [HOS.out] at hcs
        simp only [if_true] at hcs
        refine hcs.mono ?_
        rintro e w8 ⟨rfl, hk⟩
        have HB8 := hd (below_below HB.out hk); have HA8 := hd (HA.out.keep hk); have HC8 := hd (HC.out.keep hk); have HD8 := hd (HD.out.keep hk); have HO8 := hd (HO.out.keep hk); have HKC8 := hd (HKC.out.keep hk)
        clear hcs hk d0 d1 d2 d3 d4 d5 d6 d7 d8 HE HWS HOS HB HA HC HD HO HKC a2
        obtain ⟨s, hs⟩ : ∃ s : Nat, k + r = s := ⟨_, rfl⟩
        obtain ⟨t, htt⟩ : ∃ t : Nat, s % n = t := ⟨_, rfl⟩
        have htn : t < n := by rw [← htt]; exact Nat.mod_lt _ (by omega)
        have htz : (t : Int) < (n : Int) := by omega
        have HTQK : Hid (∃ (hq : k < TQ.length) (hq2 : t < qs.length), TQ[k]'hq = qs[t]'hq2) := hd (by
          have h1 := turnV_at qs r (by rw [HN.out]; exact HRR.out) k hxk
          rw [HTQ.out, HN.out, hs, htt] at h1
          have h2 : k < TQ.length := by rw [HTN.out]; exact hlt
          have h3 : t < qs.length := by rw [HN.out]; exact htn
          rw [List.getElem?_eq_getElem h2, List.getElem?_eq_getElem h3] at h1
          exact ⟨h2, h3, Option.some.inj h1⟩)
        have HSS := hd (And.intro hs htt)
        obtain ⟨⟨⟨tr2, sid2, pa2, st2, ln2, sv2, op2, sb2, ats2⟩, v2⟩, he2⟩ : ∃ r : SpanV, qs[t]'(by rw [HN.out]; exact htn) = r := ⟨_, rfl⟩
        obtain ⟨gy, off2, hx2, hcx2, h472, e0, e1, e2, e3, e4, e5, e6, e7, e8, hel2⟩ := HP0.out.atS HB8.out HN.out htn he2
        injection hx2 with hx2
        injection hx2 with q1 q2
        subst q1 q2
        obtain ⟨vx2, vc2, hv2⟩ := hel2.form
        obtain ⟨m9, hm9⟩ : ∃ m, ats2.length = m := ⟨_, rfl⟩
        rw [hm9] at hv2
        subst hv2
        have E0 := hd e0
        have E1 := hd e1
        have E2 := hd e2
        have E3 := hd e3
        have E4 := hd e4
        have E5 := hd e5
        have E6 := hd e6
        have E7 := hd e7
        have E8 := hd e8
        have HTK : Hid (∃ hq : k < TQ.length, TQ[k]'hq = (⟨tr2, sid2, pa2, st2, ln2, sv2, op2, sb2, ats2⟩, Value.slice vx2 m9 vc2)) := hd (by
          obtain ⟨h2, h3, h4⟩ := HTQK.out
          exact ⟨h2, by rw [h4]; exact he2⟩)
        clear hs htt he2 hel2 hm9 e0 e1 e2 e3 e4 e5 e6 e7 e8 HTQK hxk
        have hadd : IntKind.i64.wrap ((k : Int) + (r : Int)) = (s : Int) := by rw [IntKind.wrap_i64]; have := HSS.out.1; have := HRR.out; have := HNN.out; omega
        have hrem : ((s : Int)).tmod (n : Int) = (t : Int) := by rw [← HSS.out.2]; exact (Int.ofNat_tmod s n).symm
        have hnz : ((n : Int) == 0) = false := by rw [beq_eq_false_iff_ne]; have := HNN.out; omega
        have hnn : ¬ n = 0 := by have := HNN.out; omega
        have hnm : ((n : Int) == -1) = false := by rw [beq_eq_false_iff_ne]; have := HNN.out; omega
        go_wp2_with fail
        refine wp_region_each 15 (fun W W' => Below W.heap.size W W') (fun i v W => match i with | 0 => v = Value.pointer (some ⟨b4, 2, none⟩) | 1 => v = Value.slice (some ⟨gc, 0, none⟩) n cc | 2 => v = Value.int IntKind.i64 (k : Int) | 3 => v = Value.pointer (some ⟨g, 2, none⟩) | 4 => v = Value.slice (some ⟨gx, off, none⟩) n ca | 5 => v = Value.int IntKind.i64 (k : Int) | 6 => v = Value.int IntKind.i64 by_ | 7 => v = Value.int IntKind.i64 (n : Int) | 8 => v = Value.int IntKind.i64 (r : Int) | 9 => v = Value.int IntKind.i64 (s : Int) | 10 => v = Value.int IntKind.i64 (n : Int) | 11 => v = Value.int IntKind.i64 (t : Int) | 12 => v = Value.pointer (some ⟨gx, off + t * 9, none⟩) | 13 => v = Value.agg #[Value.int IntKind.i64 tr2, Value.int IntKind.i64 sid2, Value.int IntKind.i64 pa2, Value.string sv2, Value.string op2, Value.int IntKind.i64 st2, Value.int IntKind.i64 ln2, Value.string sb2, Value.slice vx2 m9 vc2] | 14 => v = Value.pointer (some ⟨gc, k * 9, none⟩) | _ => True) (fun vs W => Below w8.heap.size w8 W) (by kernel_rfl) (by kernel_rfl) (fun j v W W' hE h => by
            match j with
            | 0 => exact h
            | 1 => exact h
            | 2 => exact h
            | 3 => exact h
            | 4 => exact h
            | 5 => exact h
            | 6 => exact h
            | 7 => exact h
            | 8 => exact h
            | 9 => exact h
            | 10 => exact h
            | 11 => exact h
            | 12 => exact h
            | 13 => exact h
            | 14 => exact h
            | _ + 15 => trivial) (by exact (Below.refl _ _).drew) ?_ ?_
        · simp only [List.take_succ_cons, List.take_zero]
          refine Each.cons (fun vs W hl => ?_) ?_
          · apply with15 hl
            clear hl vs
            intro v0 v1 v2 v3 v4 v5 v6 v7 v8 v9 v10 v11 v12 v13 v14 hg hnew hd K hK
            clear hd
            clear hnew
            rw [if_pos (by kernel_rfl)]
            simp only [puts, Act.put, List.setIfInBounds_toArray, List.set_cons_zero, List.set_cons_succ] at hK ⊢
            go_simp
            exact hK _ _ (Below.refl _ _) rfl hg
          refine Each.cons (fun vs W hl => ?_) ?_
          · apply with15 hl
            clear hl vs
            intro v0 v1 v2 v3 v4 v5 v6 v7 v8 v9 v10 v11 v12 v13 v14 hg hnew hd K hK
            have d0 : v0 = Value.pointer (some ⟨b4, 2, none⟩) := hd 0 v0 (by kernel_rfl) rfl
            subst d0
            clear hd
            clear hnew
            rw [if_pos (by kernel_rfl)]
            simp only [puts, Act.put, List.setIfInBounds_toArray, List.set_cons_zero, List.set_cons_succ] at hK ⊢
            have c := HC8.out.keep hg
            have c0 := c.cell 0
            have c1 := c.cell 1
            have c2 := c.cell 2
            simp at c0 c1 c2
            go_simp
            exact hK _ _ (Below.refl _ _) rfl hg
          refine Each.cons (fun vs W hl => ?_) ?_
          · apply with15 hl
            clear hl vs
            intro v0 v1 v2 v3 v4 v5 v6 v7 v8 v9 v10 v11 v12 v13 v14 hg hnew hd K hK
            clear hd
            clear hnew
            rw [if_pos (by kernel_rfl)]
            simp only [puts, Act.put, List.setIfInBounds_toArray, List.set_cons_zero, List.set_cons_succ] at hK ⊢
            go_simp
            exact hK _ _ (Below.refl _ _) rfl hg
          refine Each.cons (fun vs W hl => ?_) ?_
          · apply with15 hl
            clear hl vs
            intro v0 v1 v2 v3 v4 v5 v6 v7 v8 v9 v10 v11 v12 v13 v14 hg hnew hd K hK
            clear hd
            clear hnew
            rw [if_pos (by kernel_rfl)]
            simp only [puts, Act.put, List.setIfInBounds_toArray, List.set_cons_zero, List.set_cons_succ] at hK ⊢
            go_simp
            exact hK _ _ (Below.refl _ _) rfl hg
          refine Each.cons (fun vs W hl => ?_) ?_
          · apply with15 hl
            clear hl vs
            intro v0 v1 v2 v3 v4 v5 v6 v7 v8 v9 v10 v11 v12 v13 v14 hg hnew hd K hK
            have d3 : v3 = Value.pointer (some ⟨g, 2, none⟩) := hd 3 v3 (by kernel_rfl) rfl
            subst d3
            clear hd
            clear hnew
            rw [if_pos (by kernel_rfl)]
            simp only [puts, Act.put, List.setIfInBounds_toArray, List.set_cons_zero, List.set_cons_succ] at hK ⊢
            have c := HA8.out.keep hg
            have c0 := c.cell 0
            have c1 := c.cell 1
            have c2 := c.cell 2
            simp at c0 c1 c2
            go_simp
            exact hK _ _ (Below.refl _ _) rfl hg
          refine Each.cons (fun vs W hl => ?_) ?_
          · apply with15 hl
            clear hl vs
            intro v0 v1 v2 v3 v4 v5 v6 v7 v8 v9 v10 v11 v12 v13 v14 hg hnew hd K hK
            clear hd
            clear hnew
            rw [if_pos (by kernel_rfl)]
            simp only [puts, Act.put, List.setIfInBounds_toArray, List.set_cons_zero, List.set_cons_succ] at hK ⊢
            go_simp
            exact hK _ _ (Below.refl _ _) rfl hg
          refine Each.cons (fun vs W hl => ?_) ?_
          · apply with15 hl
            clear hl vs
            intro v0 v1 v2 v3 v4 v5 v6 v7 v8 v9 v10 v11 v12 v13 v14 hg hnew hd K hK
            clear hd
            clear hnew
            rw [if_pos (by kernel_rfl)]
            simp only [puts, Act.put, List.setIfInBounds_toArray, List.set_cons_zero, List.set_cons_succ] at hK ⊢
            go_simp
            exact hK _ _ (Below.refl _ _) rfl hg
          refine Each.cons (fun vs W hl => ?_) ?_
          · apply with15 hl
            clear hl vs
            intro v0 v1 v2 v3 v4 v5 v6 v7 v8 v9 v10 v11 v12 v13 v14 hg hnew hd K hK
            clear hd
            clear hnew
            rw [if_pos (by kernel_rfl)]
            simp only [puts, Act.put, List.setIfInBounds_toArray, List.set_cons_zero, List.set_cons_succ] at hK ⊢
            go_simp
            exact hK _ _ (Below.refl _ _) rfl hg
          refine Each.cons (fun vs W hl => ?_) ?_
          · apply with15 hl
            clear hl vs
            intro v0 v1 v2 v3 v4 v5 v6 v7 v8 v9 v10 v11 v12 v13 v14 hg hnew hd K hK
            have d6 : v6 = Value.int IntKind.i64 by_ := hd 6 v6 (by kernel_rfl) rfl
            subst d6
            have d7 : v7 = Value.int IntKind.i64 (n : Int) := hd 7 v7 (by kernel_rfl) rfl
            subst d7
            clear hd
            clear hnew
            rw [if_pos (by kernel_rfl)]
            simp only [puts, Act.put, List.setIfInBounds_toArray, List.set_cons_zero, List.set_cons_succ] at hK ⊢
            go_simp
            refine (HBR.out _).mono ?_
            rintro e w' ⟨rfl, rfl⟩
            exact hK _ _ (Below.refl _ _) rfl hg
          refine Each.cons (fun vs W hl => ?_) ?_
          · apply with15 hl
            clear hl vs
            intro v0 v1 v2 v3 v4 v5 v6 v7 v8 v9 v10 v11 v12 v13 v14 hg hnew hd K hK
            have d5 : v5 = Value.int IntKind.i64 (k : Int) := hd 5 v5 (by kernel_rfl) rfl
            subst d5
            have d8 : v8 = Value.int IntKind.i64 (r : Int) := hd 8 v8 (by kernel_rfl) rfl
            subst d8
            clear hd
            clear hnew
            rw [if_pos (by kernel_rfl)]
            simp only [puts, Act.put, List.setIfInBounds_toArray, List.set_cons_zero, List.set_cons_succ] at hK ⊢
            go_simp
            exact hK _ _ (Below.refl _ _) (by first | rfl | simp) hg
          refine Each.cons (fun vs W hl => ?_) ?_
          · apply with15 hl
            clear hl vs
            intro v0 v1 v2 v3 v4 v5 v6 v7 v8 v9 v10 v11 v12 v13 v14 hg hnew hd K hK
            clear hd
            clear hnew
            rw [if_pos (by kernel_rfl)]
            simp only [puts, Act.put, List.setIfInBounds_toArray, List.set_cons_zero, List.set_cons_succ] at hK ⊢
            go_simp
            exact hK _ _ (Below.refl _ _) rfl hg
          refine Each.cons (fun vs W hl => ?_) ?_
          · apply with15 hl
            clear hl vs
            intro v0 v1 v2 v3 v4 v5 v6 v7 v8 v9 v10 v11 v12 v13 v14 hg hnew hd K hK
            have d9 : v9 = Value.int IntKind.i64 (s : Int) := hd 9 v9 (by kernel_rfl) rfl
            subst d9
            have d10 : v10 = Value.int IntKind.i64 (n : Int) := hd 10 v10 (by kernel_rfl) rfl
            subst d10
            clear hd
            clear hnew
            rw [if_pos (by kernel_rfl)]
            simp only [puts, Act.put, List.setIfInBounds_toArray, List.set_cons_zero, List.set_cons_succ] at hK ⊢
            go_simp
            exact hK _ _ (Below.refl _ _) (by first | rfl | simp) hg
          refine Each.cons (fun vs W hl => ?_) ?_
          · apply with15 hl
            clear hl vs
            intro v0 v1 v2 v3 v4 v5 v6 v7 v8 v9 v10 v11 v12 v13 v14 hg hnew hd K hK
            have d4 : v4 = Value.slice (some ⟨gx, off, none⟩) n ca := hd 4 v4 (by kernel_rfl) rfl
            subst d4
            have d11 : v11 = Value.int IntKind.i64 (t : Int) := hd 11 v11 (by kernel_rfl) rfl
            subst d11
            clear hd
            clear hnew
            rw [if_pos (by kernel_rfl)]
            simp only [puts, Act.put, List.setIfInBounds_toArray, List.set_cons_zero, List.set_cons_succ] at hK ⊢
            go_simp
            exact hK _ _ (Below.refl _ _) rfl hg
          refine Each.cons (fun vs W hl => ?_) ?_
          · apply with15 hl
            clear hl vs
            intro v0 v1 v2 v3 v4 v5 v6 v7 v8 v9 v10 v11 v12 v13 v14 hg hnew hd K hK
            have d12 : v12 = Value.pointer (some ⟨gx, off + t * 9, none⟩) := hd 12 v12 (by kernel_rfl) rfl
            subst d12
            clear hd
            clear hnew
            rw [if_pos (by kernel_rfl)]
            simp only [puts, Act.put, List.setIfInBounds_toArray, List.set_cons_zero, List.set_cons_succ] at hK ⊢
            have e0 := (below_cell hg (World.block_lt_of_cell? w8 _ E0.out)).trans E0.out
            have e1 := (below_cell hg (World.block_lt_of_cell? w8 _ E1.out)).trans E1.out
            have e2 := (below_cell hg (World.block_lt_of_cell? w8 _ E2.out)).trans E2.out
            have e3 := (below_cell hg (World.block_lt_of_cell? w8 _ E3.out)).trans E3.out
            have e4 := (below_cell hg (World.block_lt_of_cell? w8 _ E4.out)).trans E4.out
            have e5 := (below_cell hg (World.block_lt_of_cell? w8 _ E5.out)).trans E5.out
            have e6 := (below_cell hg (World.block_lt_of_cell? w8 _ E6.out)).trans E6.out
            have e7 := (below_cell hg (World.block_lt_of_cell? w8 _ E7.out)).trans E7.out
            have e8 := (below_cell hg (World.block_lt_of_cell? w8 _ E8.out)).trans E8.out
            go_simp
            exact hK _ _ (Below.refl _ _) rfl hg
          refine Each.cons (fun vs W hl => ?_) ?_
          · apply with15 hl
            clear hl vs
            intro v0 v1 v2 v3 v4 v5 v6 v7 v8 v9 v10 v11 v12 v13 v14 hg hnew hd K hK
            have d1 : v1 = Value.slice (some ⟨gc, 0, none⟩) n cc := hd 1 v1 (by kernel_rfl) rfl
            subst d1
            have d2 : v2 = Value.int IntKind.i64 (k : Int) := hd 2 v2 (by kernel_rfl) rfl
            subst d2
            clear hd
            clear hnew
            rw [if_pos (by kernel_rfl)]
            simp only [puts, Act.put, List.setIfInBounds_toArray, List.set_cons_zero, List.set_cons_succ] at hK ⊢
            go_simp
            exact hK _ _ (Below.refl _ _) rfl hg
          exact Each.nil
        · intro vs W hl
          apply with15 hl
          clear hl vs
          intro v0 v1 v2 v3 v4 v5 v6 v7 v8 v9 v10 v11 v12 v13 v14 hg hall
          have d0 : v0 = Value.pointer (some ⟨b4, 2, none⟩) := hall 0 v0 rfl
          subst d0
          have d1 : v1 = Value.slice (some ⟨gc, 0, none⟩) n cc := hall 1 v1 rfl
          subst d1
          have d2 : v2 = Value.int IntKind.i64 (k : Int) := hall 2 v2 rfl
          subst d2
          have d3 : v3 = Value.pointer (some ⟨g, 2, none⟩) := hall 3 v3 rfl
          subst d3
          have d4 : v4 = Value.slice (some ⟨gx, off, none⟩) n ca := hall 4 v4 rfl
          subst d4
          have d5 : v5 = Value.int IntKind.i64 (k : Int) := hall 5 v5 rfl
          subst d5
          have d6 : v6 = Value.int IntKind.i64 by_ := hall 6 v6 rfl
          subst d6
          have d7 : v7 = Value.int IntKind.i64 (n : Int) := hall 7 v7 rfl
          subst d7
          have d8 : v8 = Value.int IntKind.i64 (r : Int) := hall 8 v8 rfl
          subst d8
          have d9 : v9 = Value.int IntKind.i64 (s : Int) := hall 9 v9 rfl
          subst d9
          have d10 : v10 = Value.int IntKind.i64 (n : Int) := hall 10 v10 rfl
          subst d10
          have d11 : v11 = Value.int IntKind.i64 (t : Int) := hall 11 v11 rfl
          subst d11
          have d12 : v12 = Value.pointer (some ⟨gx, off + t * 9, none⟩) := hall 12 v12 rfl
          subst d12
          have d13 : v13 = Value.agg #[Value.int IntKind.i64 tr2, Value.int IntKind.i64 sid2, Value.int IntKind.i64 pa2, Value.string sv2, Value.string op2, Value.int IntKind.i64 st2, Value.int IntKind.i64 ln2, Value.string sb2, Value.slice vx2 m9 vc2] := hall 13 v13 rfl
          subst d13
          have d14 : v14 = Value.pointer (some ⟨gc, k * 9, none⟩) := hall 14 v14 rfl
          subst d14
          clear hall
          simp only [puts, Act.put, List.setIfInBounds_toArray, List.set_cons_zero, List.set_cons_succ, List.take_succ_cons, List.take_zero, List.drop_succ_cons, List.drop_zero]
          have BW := hd hg
          clear hg
          obtain ⟨u0, hu0⟩ := HRO.out.cell (HKC8.out.keep BW.out) (j := k) (by have := HTN.out; have := HPN.out; rw [List.length_append, List.length_take, List.length_drop]; omega) 0 (by decide)
          obtain ⟨u1, hu1⟩ := HRO.out.cell (HKC8.out.keep BW.out) (j := k) (by have := HTN.out; have := HPN.out; rw [List.length_append, List.length_take, List.length_drop]; omega) 1 (by decide)
          obtain ⟨u2, hu2⟩ := HRO.out.cell (HKC8.out.keep BW.out) (j := k) (by have := HTN.out; have := HPN.out; rw [List.length_append, List.length_take, List.length_drop]; omega) 2 (by decide)
          obtain ⟨u3, hu3⟩ := HRO.out.cell (HKC8.out.keep BW.out) (j := k) (by have := HTN.out; have := HPN.out; rw [List.length_append, List.length_take, List.length_drop]; omega) 3 (by decide)
          obtain ⟨u4, hu4⟩ := HRO.out.cell (HKC8.out.keep BW.out) (j := k) (by have := HTN.out; have := HPN.out; rw [List.length_append, List.length_take, List.length_drop]; omega) 4 (by decide)
          obtain ⟨u5, hu5⟩ := HRO.out.cell (HKC8.out.keep BW.out) (j := k) (by have := HTN.out; have := HPN.out; rw [List.length_append, List.length_take, List.length_drop]; omega) 5 (by decide)
          obtain ⟨u6, hu6⟩ := HRO.out.cell (HKC8.out.keep BW.out) (j := k) (by have := HTN.out; have := HPN.out; rw [List.length_append, List.length_take, List.length_drop]; omega) 6 (by decide)
          obtain ⟨u7, hu7⟩ := HRO.out.cell (HKC8.out.keep BW.out) (j := k) (by have := HTN.out; have := HPN.out; rw [List.length_append, List.length_take, List.length_drop]; omega) 7 (by decide)
          obtain ⟨u8, hu8⟩ := HRO.out.cell (HKC8.out.keep BW.out) (j := k) (by have := HTN.out; have := HPN.out; rw [List.length_append, List.length_take, List.length_drop]; omega) 8 (by decide)
          rw [Nat.add_zero] at hu0
          have f0 := (HKC8.out.keep BW.out).fz (k * 9)
          have f1 := (HKC8.out.keep BW.out).fz (k * 9 + 1)
          have f2 := (HKC8.out.keep BW.out).fz (k * 9 + 2)
          have f3 := (HKC8.out.keep BW.out).fz (k * 9 + 3)
          have f4 := (HKC8.out.keep BW.out).fz (k * 9 + 4)
          have f5 := (HKC8.out.keep BW.out).fz (k * 9 + 5)
          have f6 := (HKC8.out.keep BW.out).fz (k * 9 + 6)
          have f7 := (HKC8.out.keep BW.out).fz (k * 9 + 7)
          have f8 := (HKC8.out.keep BW.out).fz (k * 9 + 8)
          go_wp2_with fail
          have kz := kp_put9At W gc (k * 9) (Value.int .i64 tr2) (Value.int .i64 sid2) (Value.int .i64 pa2) (Value.string sv2) (Value.string op2) (Value.int .i64 st2) (Value.int .i64 ln2) (Value.string sb2) (Value.slice vx2 m9 vc2)
          have HB9 := hd ((below_below HB8.out BW.out).trans (kz.below w.heap.size (below_below HB8.out BW.out).size (fun j hj e => by have h1 := HLO.out; have h2 := HG.out; omega)))
          have HA9 := hd (kz.bk (HA8.out.keep BW.out) (by have := HLO.out; omega))
          have HC9 := hd (kz.bk (HC8.out.keep BW.out) (fun e => HT4.out e.symm))
          have HD9 := hd (kz.bk (HD8.out.keep BW.out) (fun e => HT5.out e.symm))
          have HO9 := hd ((HO8.out.keep BW.out).kpx kz (fun j hj => by simp only [Value.ownBlock, Option.some.injEq] at hj; subst hj; exact HDJ.out.1) HDJ.out.2)
          have HK9 := hd ((HKC8.out.keep BW.out).put9At (k * 9) (Value.int .i64 tr2) (Value.int .i64 sid2) (Value.int .i64 pa2) (Value.string sv2) (Value.string op2) (Value.int .i64 st2) (Value.int .i64 ln2) (Value.string sb2) (Value.slice vx2 m9 vc2))
          have HR9 : Hid (RowOf (setRow cur (k * 9) [Value.int .i64 tr2, Value.int .i64 sid2, Value.int .i64 pa2, Value.string sv2, Value.string op2, Value.int .i64 st2, Value.int .i64 ln2, Value.string sb2, Value.slice vx2 m9 vc2]) (TQ.take (k + 1) ++ ps.drop (k + 1))) := hd (by
            obtain ⟨hq, heq⟩ := HTK.out
            have hlk : k < (TQ.take k ++ ps.drop k).length := by have := HTN.out; have := HPN.out; rw [List.length_append, List.length_take, List.length_drop]; omega
            have h1 := HRO.out.set hlk (TQ[k]'hq)
            rw [set_next hq (by rw [HPN.out, HTN.out]), heq] at h1
            exact h1)
          clear hu0 f0 hu1 f1 hu2 f2 hu3 f3 hu4 f4 hu5 f5 hu6 f6 hu7 f7 hu8 f8 kz hadd hrem hnz hnm hnn HB8 HA8 HC8 HD8 HO8 HKC8 HRO BW E0 E1 E2 E3 E4 E5 E6 E7 E8
          skip
          go_roundw
          case rel => exact ⟨k + 1, _, by omega, by go_num, HB9.out, HA9.out, HC9.out, HD9.out, HO9.out, HK9.out, HR9.out⟩
          case measure => simp [intOf]; omega
      · have hnl : ¬ (k : Int) < (n : Int) := by omega
        have hkn2 : k = n := by omega
        have hro := HRO.out
        rw [hkn2, List.take_of_length_le (by rw [HTN.out]; exact Nat.le_refl _), List.drop_of_length_le (by rw [HPN.out]; exact Nat.le_refl _), List.append_nil] at hro
        have HRO2 := hd hro
        clear hro HRO hkn2
        go_wp2_with fail
        refine (HBR2.out _).mono ?_
        rintro e w10 ⟨rfl, rfl⟩
        go_wp2_with fail
        clear a2
        obtain ⟨c3, hc3⟩ : ∃ c3 : Nat, r2 + 1 = c3 := ⟨_, rfl⟩
        have HC3 := hd hc3
        have hw3 : IntKind.i64.wrap ((r2 : Int) + 1) = (c3 : Int) := by rw [IntKind.wrap_i64]; have := HRR2.out; have := HNN.out; omega
        have h3n : (c3 : Int) ≤ (n : Int) := by have := HRR2.out; omega
        have h3d : c3 ≤ dc := by have := HRR2.out; have := HCD.out; omega
        have h2d : (r2 : Int) ≤ (dc : Int) := by have := HRR2.out; have := HCD.out; omega
        have hdz : ¬ dc = 0 := by have := HNN.out; have := HCD.out; omega
        have HNL : Hid (n ≤ dc ∧ c3 ≤ n) := hd ⟨HCD.out, by omega⟩
        clear hc3
        have HO5D := hd (HO.out.ne HD.out (by decide) (by decide)).1
        have HO4D := hd (HO.out.ne HC.out (by decide) (by decide)).1
        have HO5D2 : Hid (gd ≠ b5) := hd (HO5D.out gd rfl)
        have HO4D2 : Hid (gd ≠ b4) := hd (HO4D.out gd rfl)
        clear HO5D HO4D
        have HO5D := HO5D2
        have HO4D := HO4D2
        clear HO5D2 HO4D2
        have HLO3 : Hid (lo3 ≤ w10.heap.size) := hd (by have h1 := (HO.out.own.2.lt gd rfl); omega)
        refine wp_region_eachL 11 (fun _ _ => True) (fun i v W => match i with | 0 => v = Value.pointer (some ⟨b5, 2, none⟩) | 1 => v = Value.slice (some ⟨gd, 0, none⟩) n dc | 2 => v = Value.int IntKind.i64 (r2 : Int) | 3 => v = Value.slice (some ⟨gd, 0, none⟩) r2 dc | 4 => v = Value.pointer (some ⟨b5, 2, none⟩) | 5 => v = Value.slice (some ⟨gd, 0, none⟩) n dc | 6 => v = Value.int IntKind.i64 (r2 : Int) | 7 => v = Value.int IntKind.i64 (c3 : Int) | 8 => ∃ y m z, v = Value.slice (some y) m z ∧ m = n - c3 ∧ (0 < m → y = ⟨gd, c3 * 9, none⟩) | 9 => True | 10 => v = Value.pointer (some ⟨b5, 2, none⟩) | _ => True) (fun L vs W => Kp (fun b => b = gd) w10 W ∧ (L 9 = false → Below w10.heap.size w10 W) ∧ (L 9 = true → OwB lo3 W (vs.getD 9 undef) (rs.take r2 ++ rs.drop (r2 + 1)))) (by kernel_rfl) (by kernel_rfl) (fun j v W W' hE h => h) (⟨(Kp.refl _ _).drew, fun _ => (Below.refl _ _).drew, fun hh => by cases hh⟩) ?_ ?_
        · simp only [List.take_succ_cons, List.take_zero]
          refine EachL.start (fun A hA => ?_)
          have PUTS : ∀ v0 v1 v2 v3 v4 v5 v6 v7 v8 v9 v10 : Value, A [v0, v1, v2, v3, v4, v5, v6, v7, v8, v9, v10] = A [v0, v1, v2, v3, v4, v5, v6, v7, v8, v9, v10] := fun v0 v1 v2 v3 v4 v5 v6 v7 v8 v9 v10 => rfl
          conv at PUTS => intro v0 v1 v2 v3 v4 v5 v6 v7 v8 v9 v10; rhs; rw [hA]; simp only [puts, Act.put, List.setIfInBounds_toArray, List.set_cons_zero, List.set_cons_succ]
          refine EachL.consA A hA (fun vs W L hl => ?_) ?_
          · apply with11 hl
            clear hl vs
            intro v0 v1 v2 v3 v4 v5 v6 v7 v8 v9 v10 hg hd hno hcl hdp K hK
            clear hd
            rw [if_pos (by rw [PUTS]; kernel_rfl)]
            simp only [PUTS, Act.put, List.setIfInBounds_toArray, List.set_cons_zero, List.set_cons_succ] at hK ⊢
            go_simp
            exact hK _ _ trivial rfl hg
          refine EachL.consA A hA (fun vs W L hl => ?_) ?_
          · apply with11 hl
            clear hl vs
            intro v0 v1 v2 v3 v4 v5 v6 v7 v8 v9 v10 hg hd hno hcl hdp K hK
            have d0 : v0 = Value.pointer (some ⟨b5, 2, none⟩) := hd 0 v0 (by kernel_rfl) rfl
            subst d0
            clear hd
            rw [if_pos (by rw [PUTS]; kernel_rfl)]
            simp only [PUTS, Act.put, List.setIfInBounds_toArray, List.set_cons_zero, List.set_cons_succ] at hK ⊢
            have c := hg.1.bk HD.out (fun e => HO5D.out e.symm)
            have c2 := c.cell 2
            simp at c2
            go_simp
            exact hK _ _ trivial rfl hg
          refine EachL.consA A hA (fun vs W L hl => ?_) ?_
          · apply with11 hl
            clear hl vs
            intro v0 v1 v2 v3 v4 v5 v6 v7 v8 v9 v10 hg hd hno hcl hdp K hK
            clear hd
            rw [if_pos (by rw [PUTS]; kernel_rfl)]
            simp only [PUTS, Act.put, List.setIfInBounds_toArray, List.set_cons_zero, List.set_cons_succ] at hK ⊢
            go_simp
            exact hK _ _ trivial rfl hg
          refine EachL.consA A hA (fun vs W L hl => ?_) ?_
          · apply with11 hl
            clear hl vs
            intro v0 v1 v2 v3 v4 v5 v6 v7 v8 v9 v10 hg hd hno hcl hdp K hK
            have d1 : v1 = Value.slice (some ⟨gd, 0, none⟩) n dc := hd 1 v1 (by kernel_rfl) rfl
            subst d1
            have d2 : v2 = Value.int IntKind.i64 (r2 : Int) := hd 2 v2 (by kernel_rfl) rfl
            subst d2
            clear hd
            rw [if_pos (by rw [PUTS]; kernel_rfl)]
            simp only [PUTS, Act.put, List.setIfInBounds_toArray, List.set_cons_zero, List.set_cons_succ] at hK ⊢
            go_simp
            first
            | exact hK _ _ trivial rfl hg
            | exact hK _ _ trivial (by simp [hdz]) hg
          refine EachL.consA A hA (fun vs W L hl => ?_) ?_
          · apply with11 hl
            clear hl vs
            intro v0 v1 v2 v3 v4 v5 v6 v7 v8 v9 v10 hg hd hno hcl hdp K hK
            clear hd
            rw [if_pos (by rw [PUTS]; kernel_rfl)]
            simp only [PUTS, Act.put, List.setIfInBounds_toArray, List.set_cons_zero, List.set_cons_succ] at hK ⊢
            go_simp
            exact hK _ _ trivial rfl hg
          refine EachL.consA A hA (fun vs W L hl => ?_) ?_
          · apply with11 hl
            clear hl vs
            intro v0 v1 v2 v3 v4 v5 v6 v7 v8 v9 v10 hg hd hno hcl hdp K hK
            have d4 : v4 = Value.pointer (some ⟨b5, 2, none⟩) := hd 4 v4 (by kernel_rfl) rfl
            subst d4
            clear hd
            rw [if_pos (by rw [PUTS]; kernel_rfl)]
            simp only [PUTS, Act.put, List.setIfInBounds_toArray, List.set_cons_zero, List.set_cons_succ] at hK ⊢
            have c := hg.1.bk HD.out (fun e => HO5D.out e.symm)
            have c2 := c.cell 2
            simp at c2
            go_simp
            exact hK _ _ trivial rfl hg
          refine EachL.consA A hA (fun vs W L hl => ?_) ?_
          · apply with11 hl
            clear hl vs
            intro v0 v1 v2 v3 v4 v5 v6 v7 v8 v9 v10 hg hd hno hcl hdp K hK
            clear hd
            rw [if_pos (by rw [PUTS]; kernel_rfl)]
            simp only [PUTS, Act.put, List.setIfInBounds_toArray, List.set_cons_zero, List.set_cons_succ] at hK ⊢
            go_simp
            exact hK _ _ trivial rfl hg
          refine EachL.consA A hA (fun vs W L hl => ?_) ?_
          · apply with11 hl
            clear hl vs
            intro v0 v1 v2 v3 v4 v5 v6 v7 v8 v9 v10 hg hd hno hcl hdp K hK
            have d6 : v6 = Value.int IntKind.i64 (r2 : Int) := hd 6 v6 (by kernel_rfl) rfl
            subst d6
            clear hd
            rw [if_pos (by rw [PUTS]; kernel_rfl)]
            simp only [PUTS, Act.put, List.setIfInBounds_toArray, List.set_cons_zero, List.set_cons_succ] at hK ⊢
            go_simp
            exact hK _ _ trivial (by first | rfl | simp [hw3]) hg
          refine EachL.consA A hA (fun vs W L hl => ?_) ?_
          · apply with11 hl
            clear hl vs
            intro v0 v1 v2 v3 v4 v5 v6 v7 v8 v9 v10 hg hd hno hcl hdp K hK
            have d5 : v5 = Value.slice (some ⟨gd, 0, none⟩) n dc := hd 5 v5 (by kernel_rfl) rfl
            subst d5
            have d7 : v7 = Value.int IntKind.i64 (c3 : Int) := hd 7 v7 (by kernel_rfl) rfl
            subst d7
            clear hd
            rw [if_pos (by rw [PUTS]; kernel_rfl)]
            simp only [PUTS, Act.put, List.setIfInBounds_toArray, List.set_cons_zero, List.set_cons_succ] at hK ⊢
            by_cases hcc : dc = c3
            · subst hcc
              go_simp
              exact hK _ _ trivial ⟨_, _, _, rfl, rfl, fun hh => by have := HNL.out; omega⟩ hg
            · go_simp
              exact hK _ _ trivial ⟨_, _, _, rfl, rfl, fun _ => rfl⟩ hg
          refine EachL.consA A hA (fun vs W L hl => ?_) ?_
          · apply with11 hl
            clear hl vs
            intro v0 v1 v2 v3 v4 v5 v6 v7 v8 v9 v10 hg hd hno hcl hdp K hK
            have d3 : v3 = Value.slice (some ⟨gd, 0, none⟩) r2 dc := hd 3 v3 (by kernel_rfl) rfl
            subst d3
            have d8 : ∃ y m z, v8 = Value.slice (some y) m z ∧ m = n - c3 ∧ (0 < m → y = ⟨gd, c3 * 9, none⟩) := hd 8 v8 (by kernel_rfl) rfl
            clear hd
            rw [if_pos (by rw [PUTS]; kernel_rfl)]
            simp only [PUTS, Act.put, List.setIfInBounds_toArray, List.set_cons_zero, List.set_cons_succ] at hK ⊢
            obtain ⟨y, m, z, rfl, hm, hy⟩ := d8
            have hbl := hg.2.1 hno
            obtain ⟨v', w', hrn, ho', hkp, hkb⟩ := (HO.out.keep hbl).cut (k := r2) HRN.out HRR2.out (y := y) (m := m) (z := z) (Nat.le_trans HLO3.out hbl.size) (by rw [hm, ← HC3.out]) (fun hh => by rw [hy hh, ← HC3.out]) 22
            refine Lib.wp_append_run W _ _ 22 22 rfl _ _ rfl rfl v' w' hrn ?_
            exact hK _ _ trivial trivial ⟨hg.1.trans hkp, (fun hh => by cases hh), fun _ => ho'⟩
          refine EachL.consA A hA (fun vs W L hl => ?_) ?_
          · apply with11 hl
            clear hl vs
            intro v0 v1 v2 v3 v4 v5 v6 v7 v8 v9 v10 hg hd hno hcl hdp K hK
            clear hd
            rw [if_pos (by rw [PUTS]; kernel_rfl)]
            simp only [PUTS, Act.put, List.setIfInBounds_toArray, List.set_cons_zero, List.set_cons_succ] at hK ⊢
            go_simp
            exact hK _ _ trivial rfl hg
          exact EachL.nil
        · intro vs W L hl
          apply with11 hl
          clear hl vs
          intro v0 v1 v2 v3 v4 v5 v6 v7 v8 v9 v10 hall0 hg hall
          have d0 : v0 = Value.pointer (some ⟨b5, 2, none⟩) := hall 0 v0 rfl
          subst d0
          have d1 : v1 = Value.slice (some ⟨gd, 0, none⟩) n dc := hall 1 v1 rfl
          subst d1
          have d2 : v2 = Value.int IntKind.i64 (r2 : Int) := hall 2 v2 rfl
          subst d2
          have d3 : v3 = Value.slice (some ⟨gd, 0, none⟩) r2 dc := hall 3 v3 rfl
          subst d3
          have d4 : v4 = Value.pointer (some ⟨b5, 2, none⟩) := hall 4 v4 rfl
          subst d4
          have d5 : v5 = Value.slice (some ⟨gd, 0, none⟩) n dc := hall 5 v5 rfl
          subst d5
          have d6 : v6 = Value.int IntKind.i64 (r2 : Int) := hall 6 v6 rfl
          subst d6
          have d7 : v7 = Value.int IntKind.i64 (c3 : Int) := hall 7 v7 rfl
          subst d7
          have d8 : ∃ y m z, v8 = Value.slice (some y) m z ∧ m = n - c3 ∧ (0 < m → y = ⟨gd, c3 * 9, none⟩) := hall 8 v8 rfl
          have d9 : True := hall 9 v9 rfl
          have d10 : v10 = Value.pointer (some ⟨b5, 2, none⟩) := hall 10 v10 rfl
          subst d10
          clear hall
          simp only [puts, Act.put, List.setIfInBounds_toArray, List.set_cons_zero, List.set_cons_succ, List.take_succ_cons, List.take_zero, List.drop_succ_cons, List.drop_zero]
          have ho9 : OwB lo3 W v9 (rs.take r2 ++ rs.drop (r2 + 1)) := hg.2.2 (hall0 9 (by decide))
          have hkp := hg.1
          obtain ⟨y9, z9, hc9⟩ := ho9.form
          have hl9 : (rs.take r2 ++ rs.drop (r2 + 1)).length = n - 1 := by have := HRR2.out; rw [List.length_append, List.length_take, List.length_drop, HRN.out]; omega
          rw [hl9] at hc9
          subst hc9
          have D11 := hkp.bk HD.out (fun e => HO5D.out e.symm)
          have C11 := hd (hkp.bk HC.out (fun e => HO4D.out e.symm))
          have KC11 := hd (hkp.bk HKC.out (fun e => HDJ.out.1 e.symm))
          have B11 := hd (HB.out.trans (hkp.below w.heap.size HB.out.size (fun j hj e => by have h1 := HLO.out; have h2 := HG.out; omega)))
          have c52 := D11.cell 2
          have f52 := D11.fz 2
          simp at c52
          have ks := kp_set1 W b5 2 (Value.slice y9 (n - 1) z9)
          have D12 : Hid (Bk (W.setCell ⟨b5, 2, none⟩ (Value.slice y9 (n - 1) z9)) b5 24 #[Value.int IntKind.i64 ag, Value.int IntKind.i64 sq, Value.slice y9 (n - 1) z9]) := hd (D11.set 2 _)
          have C12 := hd (ks.bk C11.out HNE.out.1)
          have KC12 := hd (ks.bk KC11.out HT5.out)
          have hne9 := ho9.ne D11 (by decide) (by decide)
          have O12 := hd (ho9.kpx ks hne9.1 hne9.2)
          have B12 := hd (B11.out.trans (ks.below w.heap.size B11.out.size (fun j hj e => by have h1 := HLO.out; have h2 := HG.out; omega)))
          clear hg hall0 d8 d9 ho9 hkp hl9 D11 C11 KC11 B11 ks hne9 hw3 h3n h3d h2d hdz
          go_upto_region 15 with fail
          clear c52 f52
          generalize W.setCell ⟨b5, 2, none⟩ (Value.slice y9 (n - 1) z9) = w12 at *
          have c0 := C12.out.cell 0
          have c1 := C12.out.cell 1
          have c2 := C12.out.cell 2
          simp at c0 c1 c2
          go_wp2_with fail
          have STQ : Sps w12 (Value.slice (some ⟨gc, 0, none⟩) n cc) TQ := ⟨HRO2.out.el KC12.out HTN.out HCAP.out (by have := HNN.out; omega), fun q hq => (HP0.out.ats q (by rw [← HTQ.out] at hq; exact turnV_mem hq)).keep B12.out⟩
          have hck := checkB_any (ag := ag) (sq := sq) STQ (fun q hq => HW.out q (by rw [← HTQ.out] at hq; exact turnV_mem hq))
          have hot := okB_turn HOK.out r
          rw [← HBB.out] at hot
          simp only at hot
          rw [← HTQ.out, turnV_spd, hot] at hck
          simp only [if_true] at hck
          refine hck.mono ?_
          clear hck hot STQ
          rintro e w13 ⟨rfl, hk⟩
          have D13 := hd (D12.out.keep hk)
          have O13 := hd (O12.out.keep hk)
          have B13 := hd (below_below B12.out hk)
          clear hk c0 c1 c2 D12 O12 B12 C12 KC12
          have d0 := D13.out.cell 0
          have d1 := D13.out.cell 1
          have d2 := D13.out.cell 2
          simp at d0 d1 d2
          have hlo := okB_less HOK.out r2 (by rw [← HBB.out]; simp only [spd_len]; rw [HN.out]; exact HRR2.out)
          rw [← HBB.out] at hlo
          simp only [spd_len] at hlo
          rw [HN.out, ← HRS.out] at hlo
          have hsp : spd (rs.take r2 ++ rs.drop (r2 + 1)) = (spd rs).take r2 ++ (spd rs).drop (r2 + 1) := by unfold spd; rw [List.map_append, List.map_take, List.map_drop]
          have HCK2 := hd (checkB_any (ag := ag) (sq := sq) O13.out.sps (fun q hq => wf_same' HRS.out HW.out q (by
            rcases List.mem_append.1 hq with hq | hq
            · exact List.mem_of_mem_take hq
            · exact List.mem_of_mem_drop hq)))
          rw [hsp, hlo] at HCK2
          clear hlo hsp
          by_cases hn1 : 1 < n
          · have hn1z : decide ((1 : Int) < (n : Int)) = true := decide_eq_true (by omega)
            have hn1y : (1 : Int) < (n : Int) := by omega
            rw [decide_eq_true hn1] at HCK2
            simp only [if_true] at HCK2
            go_wp2_with fail
            refine HCK2.out.mono ?_
            rintro e w14 ⟨rfl, hk⟩
            have B14 := hd (below_below B13.out hk)
            clear hk d0 d1 d2 HCK2
            go_wp2_with fail
            go_ret
            first
            | exact VEnd.mk B14.out
            | exact VEnd.eq (VEnd.mk B14.out) (by simp [hn1y])
          · have hn1z : decide ((1 : Int) < (n : Int)) = false := decide_eq_false (by omega)
            have hn1y : ¬ (1 : Int) < (n : Int) := by omega
            rw [decide_eq_false hn1] at HCK2
            simp only [Bool.false_eq_true, if_false] at HCK2
            go_wp2_with fail
            refine HCK2.out.mono ?_
            rintro e w14 ⟨rfl, hk⟩
            have B14 := hd (below_below B13.out hk)
            clear hk d0 d1 d2 HCK2
            go_wp2_with fail
            go_ret
            first
            | exact VEnd.mk B14.out
            | exact VEnd.eq (VEnd.mk B14.out) (by simp [hn1y])

end Go.Proofs.Yteifaipbckhoiaa
