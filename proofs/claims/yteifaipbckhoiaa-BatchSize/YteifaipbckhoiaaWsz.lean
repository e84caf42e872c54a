/- BatchSize: the law's walk. -/
import Derived.Test.YteifaipbckhoiaaZsa
import Derived.Test.YteifaipbckhoiaaVw
import Derived.Deep.Cut
namespace Go.Proofs.Yteifaipbckhoiaa
open Go.RowKit
set_option linter.unusedVariables false

/-- The copy that is written over. -/
structure SzI (w0 : World) (B g7 gc n cc : Nat) (ag sq : Int) (sp0 : List SpanD) (wr : World) (ps : List SpanV) : Prop where
  bel : Below w0.heap.size w0 wr
  bk : Bk wr g7 24 #[Value.int IntKind.i64 ag, Value.int IntKind.i64 sq, Value.slice (some ⟨gc, 0, none⟩) n cc]
  own : OwB B wr (Value.slice (some ⟨gc, 0, none⟩) n cc) ps
  like : LikeSs sp0 (spd ps)
  wf : ∀ p ∈ ps, WfS p.1
  len : ps.length = n
theorem SzI.keep {w0 wr w' : World} {B g7 gc n cc : Nat} {ag sq : Int} {sp0 : List SpanD} {ps : List SpanV} (h : SzI w0 B g7 gc n cc ag sq sp0 wr ps) (k : Below wr.heap.size wr w') : SzI w0 B g7 gc n cc ag sq sp0 w' ps :=
  ⟨below_below h.bel k, h.bk.keep k, h.own.keep k, h.like, h.wf, h.len⟩
theorem spd_set (ps : List SpanV) (i : Nat) (y : SpanV) : spd (ps.set i y) = (spd ps).set i y.1 := by
  unfold spd
  rw [List.map_set]
theorem SzI.setS {w0 wr : World} {B g7 gc n cc : Nat} {ag sq : Int} {sp0 : List SpanD} {ps : List SpanV} (h : SzI w0 B g7 gc n cc ag sq sp0 wr ps) (hB : w0.heap.size ≤ B) {i f : Nat} (hi : i < ps.length) (hf : f < 9) {s s' : SpanD} {v u : Value} (hq : ps[i]'hi = (s, v)) (he : encS (s', v) = (encS (s, v)).set f u) (ha : s'.ats = s.ats)
    (hl : ∀ (h0 : i < sp0.length), LikeS (sp0[i]'h0) s → LikeS (sp0[i]'h0) s') : ∃ (ps' : List SpanV) (hi' : i < ps'.length), SzI w0 B g7 gc n cc ag sq sp0 (wr.setCell ⟨gc, i * 9 + f, none⟩ u) ps' ∧ ps'[i]'hi' = (s', v) := by
  have hk := kp_set1 wr gc (i * 9 + f) u
  have hgc := h.own.own.2.lt gc rfl
  have h7 := (h.own.ne h.bk (by decide) (by decide)).1 gc rfl
  have hl0 := h.like.len
  rw [spd_len] at hl0
  have hlk := h.like.at_ i (by omega) (by rw [spd_len]; exact hi)
  have e1 : (spd ps)[i]'(by rw [spd_len]; exact hi) = s := by
    unfold spd
    rw [List.getElem_map, hq]
  rw [e1] at hlk
  have hs := h.own.setS hi hf (s' := s') (u := u) (by rw [hq]; exact he) (by rw [hq]; exact ha)
  rw [hq] at hs
  refine ⟨ps.set i (s', v), by rw [List.length_set]; exact hi, ⟨h.bel.trans (hk.below w0.heap.size h.bel.size (fun j hj e => by omega)), hk.bk h.bk (fun e => h7 e.symm), hs, ?_, fun p hp => ?_, by rw [List.length_set]; exact h.len⟩, List.getElem_set_self _⟩
  · rw [spd_set]
    exact h.like.set i (by omega) s' (hl _ hlk)
  · rcases mem_set hp with rfl | ⟨j, hj, _, rfl⟩
    · have hw := h.wf _ (List.getElem_mem hi)
      rw [hq] at hw
      intro a haa
      exact hw a (by show a ∈ s.ats; rw [← ha]; exact haa)
    · exact h.wf _ (List.getElem_mem hj)
theorem SzI.setA {w0 wr : World} {B g7 gc n cc : Nat} {ag sq : Int} {sp0 : List SpanD} {ps : List SpanV} (h : SzI w0 B g7 gc n cc ag sq sp0 wr ps) (hB : w0.heap.size ≤ B) {i k ga m cp : Nat} (hi : i < ps.length) {s : SpanD} (hq : ps[i]'hi = (s, Value.slice (some ⟨ga, 0, none⟩) m cp)) (hk : k < s.ats.length) {nm : ByteArray} {x p kk mm : Int} {b u : ByteArray} (ha : s.ats[k]'hk = (nm, x, p, kk, mm, b)) (hu : u.size = b.size) :
    ∃ (ps' : List SpanV) (hi' : i < ps'.length), SzI w0 B g7 gc n cc ag sq sp0 (wr.setCell ⟨ga, k * 6 + 5, none⟩ (.string u)) ps' ∧ ps'[i]'hi' = ({ s with ats := s.ats.set k (nm, x, p, kk, mm, u) }, Value.slice (some ⟨ga, 0, none⟩) m cp) := by
  have hkp := kp_set1 wr ga (k * 6 + 5) (.string u)
  have h2 := h.own.ats _ (List.getElem_mem hi)
  rw [hq] at h2
  have hga := h2.2.lt ga rfl
  have h7 := (h.own.ne h.bk (by decide) (by decide)).2 _ (List.getElem_mem hi) ga (by rw [hq]; rfl)
  have hl0 := h.like.len
  rw [spd_len] at hl0
  have hlk := h.like.at_ i (by omega) (by rw [spd_len]; exact hi)
  have e1 : (spd ps)[i]'(by rw [spd_len]; exact hi) = s := by
    unfold spd
    rw [List.getElem_map, hq]
  rw [e1] at hlk
  have hlike : Like (s.ats[k]'hk) (nm, x, p, kk, mm, u) := by rw [ha]; exact ⟨rfl, rfl, rfl, rfl, rfl, hu⟩
  have hLL := LikeL.set s.ats k hk (nm, x, p, kk, mm, u) hlike
  have hq2 : (ps[i]'hi).2 = Value.slice (some ⟨ga, 0, none⟩) m cp := by rw [hq]
  have hk2 : k < (ps[i]'hi).1.ats.length := by rw [hq]; exact hk
  have hs := h.own.setA hi hq2 hk2 (f := 5) (by decide) (a' := (nm, x, p, kk, mm, u)) (u := .string u) (by
    have e2 : (ps[i]'hi).1.ats[k]'hk2 = (nm, x, p, kk, mm, b) := by simp only [hq]; exact ha
    rw [e2]
    rfl)
  simp only [hq] at hs
  refine ⟨ps.set i ({ s with ats := s.ats.set k (nm, x, p, kk, mm, u) }, Value.slice (some ⟨ga, 0, none⟩) m cp), by rw [List.length_set]; exact hi, ⟨h.bel.trans (hkp.below w0.heap.size h.bel.size (fun j hj e => by omega)), hkp.bk h.bk (fun e => h7 e.symm), hs, ?_, fun p hp => ?_, by rw [List.length_set]; exact h.len⟩, List.getElem_set_self _⟩
  · rw [spd_set]
    exact h.like.set i (by omega) _ (hlk.ats hLL)
  · rcases mem_set hp with rfl | ⟨j, hj, _, rfl⟩
    · have hw := h.wf _ (List.getElem_mem hi)
      rw [hq] at hw
      exact hLL.wf hw
    · exact h.wf _ (List.getElem_mem hj)
theorem okV_sz {kk mm : Int} {b : ByteArray} (h : okV (kk, mm, b) = true) : b.size ≤ 64 := by
  unfold okV at h
  simp only [Bool.or_eq_true, Bool.and_eq_true, beq_iff_eq, decide_eq_true_eq] at h
  omega
theorem LikeS.sb' {a b : SpanD} (h : LikeS a b) {u : ByteArray} (hu : u.size = b.sb.size) : LikeS a { b with sb := u } := ⟨h.tr, h.sid, h.pa, h.st, h.ln, h.sv, h.op, hu.trans h.sb, h.nsv, h.nop, h.oats, h.lats⟩
theorem LikeS.sv' {a b : SpanD} (h : LikeS a b) : LikeS a { b with sv := ⟨Array.replicate b.sv.size 122⟩ } :=
  ⟨h.tr, h.sid, h.pa, h.st, h.ln, (show (Array.replicate b.sv.size (122 : UInt8)).size = _ by rw [Array.size_replicate]; exact h.sv), h.op, h.sb, fun e => by have e2 := isNm_zs e; rw [← h.sv] at e2; exact e2, h.nop, h.oats, h.lats⟩
theorem LikeS.op' {a b : SpanD} (h : LikeS a b) : LikeS a { b with op := ⟨Array.replicate b.op.size 121⟩ } :=
  ⟨h.tr, h.sid, h.pa, h.st, h.ln, h.sv, (show (Array.replicate b.op.size (121 : UInt8)).size = _ by rw [Array.size_replicate]; exact h.op), h.sb, h.nsv, fun e => by have e2 := isNm_ys e; rw [← h.op] at e2; exact e2, h.oats, h.lats⟩
theorem SzI.fit {w0 wr : World} {B g7 gc n cc : Nat} {ag sq : Int} {sp0 : List SpanD} {ps : List SpanV} (h : SzI w0 B g7 gc n cc ag sq sp0 wr ps) (ho : ∀ s ∈ sp0, okS s = true) {i : Nat} (hi : i < ps.length) {s : SpanD} {v : Value} (hq : ps[i]'hi = (s, v)) : Fit s := by
  have h1 := (h.like.ok ho).1 s (List.mem_map.2 ⟨_, List.getElem_mem hi, by rw [hq]⟩)
  have hw := h.wf _ (List.getElem_mem hi)
  rw [hq] at hw
  exact Fit.of h1 hw

set_option maxRecDepth 100000 in
set_option maxHeartbeats 16000000 in
theorem size_walk {w : World} {c : Value} {qs : List SpanV} {ag sq by_ : Int} (h : BatIn w ag sq c qs) (hby : 0 ≤ by_ ∧ by_ ≤ 255) :
    Calls Try.prog 8 #[.agg #[.int .i64 ag, .int .i64 sq, c], .int .u8 by_] w fun e w' => VEnd w (.bool true) e w' := by
  obtain ⟨xa, ca, rfl⟩ := h.sps.el.form
  obtain ⟨n, hn⟩ : ∃ n, qs.length = n := ⟨_, rfl⟩
  have HW := hd h.wf
  have HRM := hd h.room
  have HP0 := hd h.sps
  rw [hn] at HP0 ⊢
  have HN := hd hn
  obtain ⟨bb, hbb⟩ : ∃ b : BatchD, (⟨ag, sq, spd qs⟩ : BatchD) = b := ⟨_, rfl⟩
  have HBB := hd hbb
  have HBY := hd hby
  clear hn h hbb hby
  have NB := below1 w (Obj.cells #[Value.int IntKind.i64 ag, Value.int IntKind.i64 sq, Value.slice xa n ca] 24)
  have A0 := hd (Bk.new w 24 #[Value.int IntKind.i64 ag, Value.int IntKind.i64 sq, Value.slice xa n ca])
  have P0 := hd (HP0.out.keep NB)
  have B0 := hd (NB)
  clear NB
  go_enter Try.func8, Try.ntmps8
  go_wp2_with fail
  generalize w.alloc (Obj.cells #[Value.int IntKind.i64 ag, Value.int IntKind.i64 sq, Value.slice xa n ca] 24) = w1 at *
  obtain ⟨g, hg⟩ : ∃ g, w.heap.size = g := ⟨_, rfl⟩
  rw [hg] at A0 ⊢
  have HG := hd hg
  clear hg
  refine (works_true w1).mono ?_
  rintro e w2 ⟨rfl, hk⟩
  have A1 := hd (A0.out.keep hk)
  have P1 := hd (P0.out.keep hk)
  have B1 := hd (below_below B0.out hk)
  clear A0 P0 B0 hk
  have a0 := A1.out.cell 0
  have a1 := A1.out.cell 1
  have a2 := A1.out.cell 2
  simp at a0 a1 a2
  go_wp2_with fail
  have HBT := bytesB_any (ag := ag) (sq := sq) P1.out HW.out
  rw [HBB.out] at HBT
  cases hok : okB bb
  · rw [hok] at HBT
    simp only [Bool.false_eq_true, if_false] at HBT
    clear hok
    refine HBT.mono ?_
    rintro e w3 ⟨a3, n3, p3, rfl, hn3, ho3, hk⟩
    have A2 := hd (A1.out.keep hk)
    have P2 := hd (P1.out.keep hk)
    have B2 := hd (below_below B1.out hk)
    clear A1 P1 B1 HBT ho3 hk hn3 a0 a1 a2
    go_wp2_with fail
    go_ret
    exact VEnd.mk B2.out
  have HOK := hd hok
  rw [hok] at HBT
  simp only [if_true] at HBT
  have HNN : Hid (1 ≤ n ∧ n ≤ 16) := hd (by have h := (okB_parts hok).2.2.1; rw [← HBB.out] at h; simp only [spd_len] at h; rw [HN.out] at h; exact h)
  have HOS : Hid (∀ s ∈ spd qs, okS s = true) := hd (by have h := (okB_parts hok).2.2.2.1; rw [← HBB.out] at h; exact h)
  clear hok
  refine HBT.mono ?_
  rintro e w3 ⟨a3, n3, p3, rfl, hn3, ho3, hk⟩
  have HN3 := hd hn3
  have A2 := hd (A1.out.keep hk)
  have P2 := hd (P1.out.keep hk)
  have B2 := hd (below_below B1.out hk)
  clear A1 P1 B1 HBT hk hn3 ho3 a0 a1 a2
  have a0 := A2.out.cell 0
  have a1 := A2.out.cell 1
  have a2 := A2.out.cell 2
  simp at a0 a1 a2
  go_wp2_with fail
  refine (copyB_is ag sq P2.out HRM.out).mono ?_
  rintro e w4 ⟨c4, ps, rfl, hps, ho, hk⟩
  have hpl : ps.length = n := by rw [← spd_len ps, hps, spd_len, HN.out]
  obtain ⟨gc, cc, cur, hcv, hgc, hkc, hcap, hrow⟩ := ho.own.open_ (by have := HNN.out; omega)
  rw [hpl] at hcv
  subst hcv
  have BD3 := B2.out
  have BD := hd (below_below BD3 hk)
  have HLB : Hid (w.heap.size ≤ w3.heap.size) := hd BD3.size
  clear BD3 hgc hkc hcap hrow a0 a1 a2 hk A2 P2 B2
  have NB := below1 w4 (Obj.cells #[Value.int IntKind.i64 ag, Value.int IntKind.i64 sq, Value.slice (some ⟨gc, 0, none⟩) n cc] 24)
  have HZ : Hid (SzI w w3.heap.size w4.heap.size gc n cc ag sq (spd qs) (w4.alloc (Obj.cells #[Value.int IntKind.i64 ag, Value.int IntKind.i64 sq, Value.slice (some ⟨gc, 0, none⟩) n cc] 24)) ps) := hd ⟨below_below BD.out NB, Bk.new w4 24 #[Value.int IntKind.i64 ag, Value.int IntKind.i64 sq, Value.slice (some ⟨gc, 0, none⟩) n cc], ho.keep NB, by rw [hps]; exact LikeSs.refl _, wf_same' hps HW.out, hpl⟩
  clear NB ho hps hpl BD
  go_upto_region 7 with fail
  generalize w4.alloc (Obj.cells #[Value.int IntKind.i64 ag, Value.int IntKind.i64 sq, Value.slice (some ⟨gc, 0, none⟩) n cc] 24) = w5 at *
  generalize w4.heap.size = g7 at *
  generalize w3.heap.size = B at *
  have NB := below1 w5 (Obj.cells #[Value.int IntKind.u8 by_] 5)
  have x6 : Ow w5.heap.size (w5.alloc (Obj.cells #[Value.int IntKind.u8 by_] 5)) (Value.slice (some ⟨w5.heap.size, 0, none⟩) 1 1) [by_] := Ow.new w5 [by_] (fun y hy => by obtain rfl := List.mem_singleton.1 hy; exact HBY.out) (by simp)
  have hcv := conv_bs x6.bs
  obtain ⟨x, hx⟩ : ∃ x : UInt8, strOfNums [by_] = ⟨#[x]⟩ := ⟨_, rfl⟩
  rw [hx] at hcv
  have HZ6 := hd (HZ.out.keep NB)
  clear NB x6 hx HZ
  go_upto_region 8 with fail
  clear hcv
  generalize w5.alloc (Obj.cells #[Value.int IntKind.u8 by_] 5) = w6 at *
  go_wp2_with fail
  go_loopw [9, 10, 11] (fun i _ _ wr => ∃ (j : Nat) (ps : List SpanV), j ≤ n ∧ i = .int .i64 (j : Int) ∧ SzI w B g7 gc n cc ag sq (spd qs) wr ps) (fun i _ _ _ => n - (intOf i).toNat)
  case atStart => exact ⟨0, ps, Nat.zero_le _, rfl, HZ6.out⟩
  case round =>
    obtain ⟨io, ps, hin, rfl, hz⟩ := hrel
    have HZ := hd hz
    clear hz HZ6
    have b2 := HZ.out.bk.cell 2
    simp at b2
    by_cases hlt : io < n
    · have hlz : (io : Int) < (n : Int) := by omega
      have hpi : io < ps.length := by rw [HZ.out.len]; exact hlt
      obtain ⟨⟨⟨tr, sid, pa, st, ln, sv, op, sb, ats⟩, v⟩, hq⟩ : ∃ r : SpanV, ps[io]'hpi = r := ⟨_, rfl⟩
      have HFT := hd (HZ.out.fit HOS.out hpi hq)
      have HPQ : Hid (∃ hi : io < ps.length, ps[io]'hi = (⟨tr, sid, pa, st, ln, sv, op, sb, ats⟩, v)) := hd ⟨hpi, hq⟩
      have c7 : wr.cell? ⟨gc, io * 9 + 7, none⟩ = some (.string sb) := HZ.out.own.cell hpi 7 (by rw [hq]; rfl)
      clear hpi hq
      go_wp2_with fail
      refine (repeat_one x sb.size wr (by have := HFT.out.sb; simp only at this; omega)).mono ?_
      rintro e w8 ⟨rfl, hk⟩
      have HZ8 := hd (HZ.out.keep hk)
      clear hk c7 b2 HZ
      obtain ⟨hpi, hq⟩ := HPQ.out
      have c7 : w8.cell? ⟨gc, io * 9 + 7, none⟩ = some (.string sb) := HZ8.out.own.cell hpi 7 (by rw [hq]; rfl)
      have f7 : w8.frozen? ⟨gc, io * 9 + 7, none⟩ = false := own_fz HZ8.out.own.own.2 (io * 9 + 7)
      have hnew := HZ8.out.setS HLB.out hpi (f := 7) (by decide) hq (s' := ⟨tr, sid, pa, st, ln, sv, op, ⟨Array.replicate sb.size x⟩, ats⟩) (u := .string ⟨Array.replicate sb.size x⟩) rfl rfl (fun h0 hl => hl.sb' (by show (Array.replicate sb.size x).size = _; rw [Array.size_replicate]))
      clear HPQ HZ8 hpi hq
      go_upto_region 13 with fail
      clear c7 f7
      generalize w8.setCell ⟨gc, io * 9 + 7, none⟩ (.string ⟨Array.replicate sb.size x⟩) = w8s at *
      obtain ⟨ps1, hpi, hz9, hq⟩ := hnew
      have HPQ : Hid (∃ hi : io < ps1.length, ps1[io]'hi = (⟨tr, sid, pa, st, ln, sv, op, ⟨Array.replicate sb.size x⟩, ats⟩, v)) := hd ⟨hpi, hq⟩
      have HZ9 := hd hz9
      clear hz9
      have c3 : w8s.cell? ⟨gc, io * 9 + 3, none⟩ = some (.string sv) := HZ9.out.own.cell hpi 3 (by rw [hq]; rfl)
      clear hpi hq
      go_wp2_with fail
      refine (repeat_one 122 sv.size w8s (by have := HFT.out.sv; simp only at this; omega)).mono ?_
      rintro e w9 ⟨rfl, hk⟩
      have HZ8 := hd (HZ9.out.keep hk)
      clear hk c3 HZ9
      obtain ⟨hpi, hq⟩ := HPQ.out
      have c3 : w9.cell? ⟨gc, io * 9 + 3, none⟩ = some (.string sv) := HZ8.out.own.cell hpi 3 (by rw [hq]; rfl)
      have f3 : w9.frozen? ⟨gc, io * 9 + 3, none⟩ = false := own_fz HZ8.out.own.own.2 (io * 9 + 3)
      have hnew := HZ8.out.setS HLB.out hpi (f := 3) (by decide) hq (s' := ⟨tr, sid, pa, st, ln, ⟨Array.replicate sv.size 122⟩, op, ⟨Array.replicate sb.size x⟩, ats⟩) (u := .string ⟨Array.replicate sv.size 122⟩) rfl rfl (fun h0 hl => hl.sv')
      clear HPQ HZ8 hpi hq
      go_upto_region 14 with fail
      clear c3 f3
      generalize w9.setCell ⟨gc, io * 9 + 3, none⟩ (.string ⟨Array.replicate sv.size 122⟩) = w9s at *
      obtain ⟨ps2, hpi, hz9, hq⟩ := hnew
      have HPQ : Hid (∃ hi : io < ps2.length, ps2[io]'hi = (⟨tr, sid, pa, st, ln, ⟨Array.replicate sv.size 122⟩, op, ⟨Array.replicate sb.size x⟩, ats⟩, v)) := hd ⟨hpi, hq⟩
      have HZ9 := hd hz9
      clear hz9
      have c4 : w9s.cell? ⟨gc, io * 9 + 4, none⟩ = some (.string op) := HZ9.out.own.cell hpi 4 (by rw [hq]; rfl)
      clear hpi hq
      go_wp2_with fail
      refine (repeat_one 121 op.size w9s (by have := HFT.out.op; simp only at this; omega)).mono ?_
      rintro e w10 ⟨rfl, hk⟩
      have HZ8 := hd (HZ9.out.keep hk)
      clear hk c4 HZ9
      obtain ⟨hpi, hq⟩ := HPQ.out
      have c4 : w10.cell? ⟨gc, io * 9 + 4, none⟩ = some (.string op) := HZ8.out.own.cell hpi 4 (by rw [hq]; rfl)
      have f4 : w10.frozen? ⟨gc, io * 9 + 4, none⟩ = false := own_fz HZ8.out.own.own.2 (io * 9 + 4)
      have hnew := HZ8.out.setS HLB.out hpi (f := 4) (by decide) hq (s' := ⟨tr, sid, pa, st, ln, ⟨Array.replicate sv.size 122⟩, ⟨Array.replicate op.size 121⟩, ⟨Array.replicate sb.size x⟩, ats⟩) (u := .string ⟨Array.replicate op.size 121⟩) rfl rfl (fun h0 hl => hl.op')
      clear HPQ HZ8 hpi hq
      go_upto_region 15 with fail
      clear c4 f4
      generalize w10.setCell ⟨gc, io * 9 + 4, none⟩ (.string ⟨Array.replicate op.size 121⟩) = w10s at *
      obtain ⟨ps3, hpi, hz9, hq⟩ := hnew
      have HPQ : Hid (∃ hi : io < ps3.length, ps3[io]'hi = (⟨tr, sid, pa, st, ln, ⟨Array.replicate sv.size 122⟩, ⟨Array.replicate op.size 121⟩, ⟨Array.replicate sb.size x⟩, ats⟩, v)) := hd ⟨hpi, hq⟩
      have HZ9 := hd hz9
      clear hz9
      have hov := HZ9.out.own.ats _ (List.getElem_mem hpi)
      rw [hq] at hov
      obtain ⟨y, cp, hv⟩ := hov.form
      obtain ⟨m, hm⟩ : ∃ m, ats.length = m := ⟨_, rfl⟩
      simp only at hv
      rw [hm] at hv
      subst hv
      clear hpi hq hov
      go_wp2_with fail
      go_loopw [11] (fun i11 wr => ∃ (k : Nat) (pt : List SpanV) (hi : io < pt.length) (s : SpanD), k ≤ m ∧ i11 = .int .i64 (k : Int) ∧ SzI w B g7 gc n cc ag sq (spd qs) wr pt ∧ pt[io]'hi = (s, Value.slice y m cp) ∧ s.ats.length = m) (fun i11 _ => m - (intOf i11).toNat)
      case atStart =>
        obtain ⟨hpi, hq⟩ := HPQ.out
        exact ⟨0, ps3, hpi, _, Nat.zero_le _, rfl, HZ9.out, hq, hm⟩
      case round =>
        obtain ⟨k, pt, hpi, s, hkm, rfl, hz, hq, hsl⟩ := hrel
        have HZ := hd hz; have HSL := hd hsl
        have HPT : Hid (∃ hi : io < pt.length, pt[io]'hi = (s, Value.slice y m cp)) := hd ⟨hpi, hq⟩
        have c8 : wr.cell? ⟨gc, io * 9 + 8, none⟩ = some (Value.slice y m cp) := HZ.out.own.cell hpi 8 (by rw [hq]; rfl)
        have HFS := hd (HZ.out.fit HOS.out hpi hq)
        clear hz hsl HPQ HZ9 HFT
        have hm8 : m ≤ 8 := by have h := (okAs_all HFS.out.ats).1; rw [HSL.out] at h; exact h
        have hn16 : n ≤ 16 := HNN.out.2
        by_cases hkl : k < m
        · have hkz : (k : Int) < (m : Int) := by omega
          have hov := HZ.out.own.ats _ (List.getElem_mem hpi)
          rw [hq] at hov
          obtain ⟨ga, hy⟩ : ∃ ga, y = some ⟨ga, 0, none⟩ := by
            rcases hov.2.2 with ⟨_, h0⟩ | ⟨ga, _, _, hv, _⟩
            · simp only at h0
              have := HSL.out
              omega
            · injection hv with e1
              exact ⟨ga, e1⟩
          subst hy
          have hks : k < s.ats.length := by rw [HSL.out]; exact hkl
          obtain ⟨⟨nm, x2, p2, kk, mm, b⟩, ha⟩ : ∃ r : AttrD, s.ats[k]'hks = r := ⟨_, rfl⟩
          have HAK : Hid (∃ hk : k < s.ats.length, s.ats[k]'hk = (nm, x2, p2, kk, mm, b)) := hd ⟨hks, ha⟩
          have hbz : b.size ≤ 140737488355328 ∧ (kk = 2 → b.size ≤ 140737488355328) := by
            have h1 := (okA_parts ((okAs_all HFS.out.ats).2 _ (List.getElem_mem hks))).2.2
            rw [ha] at h1
            have h2 := okV_sz h1
            exact ⟨by omega, fun _ => by omega⟩
          have HBZ := hd hbz.1
          have k3 : wr.cell? ⟨ga, k * 6 + 3, none⟩ = some (.int .i64 kk) := hov.cell hks 3 (by rw [ha]; rfl)
          have k5 : wr.cell? ⟨ga, k * 6 + 5, none⟩ = some (.string b) := hov.cell hks 5 (by rw [ha]; rfl)
          have K5 := hd k5
          have C8 := hd c8
          clear hov hks ha hbz hpi hq k5
          by_cases hkk : kk = 2
          · have hkb : (kk == 2) = true := beq_iff_eq.2 hkk
            subst hkk
            go_wp2_with fail
            clear c8 k3
            refine wp_region_each 20 (fun W W' => Below W.heap.size W W') (fun i v W => match i with | 0 => v = Value.pointer (some ⟨gc, io * 9, none⟩) | 1 => v = Value.pointer (some ⟨gc, io * 9, none⟩) | 2 => v = Value.pointer (some ⟨gc, io * 9 + 8, none⟩) | 3 => v = Value.slice (some ⟨ga, 0, none⟩) m cp | 4 => v = Value.int IntKind.i64 (k : Int) | 5 => v = Value.string ⟨#[x]⟩ | 6 => v = Value.pointer (some ⟨gc, io * 9, none⟩) | 7 => v = Value.pointer (some ⟨gc, io * 9, none⟩) | 8 => v = Value.pointer (some ⟨gc, io * 9 + 8, none⟩) | 9 => v = Value.slice (some ⟨ga, 0, none⟩) m cp | 10 => v = Value.int IntKind.i64 (k : Int) | 11 => v = Value.pointer (some ⟨ga, k * 6, none⟩) | 12 => v = Value.pointer (some ⟨ga, k * 6 + 3, none⟩) | 13 => v = Value.pointer (some ⟨ga, k * 6 + 5, none⟩) | 14 => v = Value.string b | 15 => v = Value.int IntKind.i64 ((b.size : Nat) : Int) | 16 => v = Value.string ⟨Array.replicate b.size x⟩ | 17 => v = Value.pointer (some ⟨ga, k * 6, none⟩) | 18 => v = Value.pointer (some ⟨ga, k * 6 + 3, none⟩) | 19 => v = Value.pointer (some ⟨ga, k * 6 + 5, none⟩) | _ => True) (fun vs W => Below wr.heap.size wr W) (by kernel_rfl) (by kernel_rfl) (fun j v W W' hE h => by
                match j with
                | 0 => exact h
                | 1 => exact h
                | 2 => exact h
                | 3 => exact h
                | 4 => exact h
                | 5 => exact h
                | 6 => exact h
                | 7 => exact h
                | 8 => exact h
                | 9 => exact h
                | 10 => exact h
                | 11 => exact h
                | 12 => exact h
                | 13 => exact h
                | 14 => exact h
                | 15 => exact h
                | 16 => exact h
                | 17 => exact h
                | 18 => exact h
                | 19 => exact h
                | _ + 20 => trivial) (by exact (Below.refl _ _).drew) ?_ ?_
            · simp only [List.take_succ_cons, List.take_zero]
              refine Each.cons (fun vs W hl => ?_) ?_
              · apply with20 hl
                clear hl vs
                intro v0 v1 v2 v3 v4 v5 v6 v7 v8 v9 v10 v11 v12 v13 v14 v15 v16 v17 v18 v19 hg hnew hd K hK
                clear hd
                clear hnew
                rw [if_pos (by kernel_rfl)]
                simp only [puts, Act.put, List.setIfInBounds_toArray, List.set_cons_zero, List.set_cons_succ] at hK ⊢
                go_simp
                exact hK _ _ (Below.refl _ _) rfl hg
              refine Each.cons (fun vs W hl => ?_) ?_
              · apply with20 hl
                clear hl vs
                intro v0 v1 v2 v3 v4 v5 v6 v7 v8 v9 v10 v11 v12 v13 v14 v15 v16 v17 v18 v19 hg hnew hd K hK
                have d0 : v0 = Value.pointer (some ⟨gc, io * 9, none⟩) := hd 0 v0 (by kernel_rfl) rfl
                subst d0
                clear hd
                clear hnew
                rw [if_pos (by kernel_rfl)]
                simp only [puts, Act.put, List.setIfInBounds_toArray, List.set_cons_zero, List.set_cons_succ] at hK ⊢
                go_simp
                exact hK _ _ (Below.refl _ _) rfl hg
              refine Each.cons (fun vs W hl => ?_) ?_
              · apply with20 hl
                clear hl vs
                intro v0 v1 v2 v3 v4 v5 v6 v7 v8 v9 v10 v11 v12 v13 v14 v15 v16 v17 v18 v19 hg hnew hd K hK
                have d1 : v1 = Value.pointer (some ⟨gc, io * 9, none⟩) := hd 1 v1 (by kernel_rfl) rfl
                subst d1
                clear hd
                clear hnew
                rw [if_pos (by kernel_rfl)]
                simp only [puts, Act.put, List.setIfInBounds_toArray, List.set_cons_zero, List.set_cons_succ] at hK ⊢
                go_simp
                exact hK _ _ (Below.refl _ _) rfl hg
              refine Each.cons (fun vs W hl => ?_) ?_
              · apply with20 hl
                clear hl vs
                intro v0 v1 v2 v3 v4 v5 v6 v7 v8 v9 v10 v11 v12 v13 v14 v15 v16 v17 v18 v19 hg hnew hd K hK
                have d2 : v2 = Value.pointer (some ⟨gc, io * 9 + 8, none⟩) := hd 2 v2 (by kernel_rfl) rfl
                subst d2
                clear hd
                clear hnew
                rw [if_pos (by kernel_rfl)]
                simp only [puts, Act.put, List.setIfInBounds_toArray, List.set_cons_zero, List.set_cons_succ] at hK ⊢
                have e8 := (below_cell hg (World.block_lt_of_cell? wr _ C8.out)).trans C8.out
                go_simp
                exact hK _ _ (Below.refl _ _) rfl hg
              refine Each.cons (fun vs W hl => ?_) ?_
              · apply with20 hl
                clear hl vs
                intro v0 v1 v2 v3 v4 v5 v6 v7 v8 v9 v10 v11 v12 v13 v14 v15 v16 v17 v18 v19 hg hnew hd K hK
                clear hd
                clear hnew
                rw [if_pos (by kernel_rfl)]
                simp only [puts, Act.put, List.setIfInBounds_toArray, List.set_cons_zero, List.set_cons_succ] at hK ⊢
                go_simp
                exact hK _ _ (Below.refl _ _) rfl hg
              refine Each.cons (fun vs W hl => ?_) ?_
              · apply with20 hl
                clear hl vs
                intro v0 v1 v2 v3 v4 v5 v6 v7 v8 v9 v10 v11 v12 v13 v14 v15 v16 v17 v18 v19 hg hnew hd K hK
                clear hd
                clear hnew
                rw [if_pos (by kernel_rfl)]
                simp only [puts, Act.put, List.setIfInBounds_toArray, List.set_cons_zero, List.set_cons_succ] at hK ⊢
                go_simp
                exact hK _ _ (Below.refl _ _) rfl hg
              refine Each.cons (fun vs W hl => ?_) ?_
              · apply with20 hl
                clear hl vs
                intro v0 v1 v2 v3 v4 v5 v6 v7 v8 v9 v10 v11 v12 v13 v14 v15 v16 v17 v18 v19 hg hnew hd K hK
                clear hd
                clear hnew
                rw [if_pos (by kernel_rfl)]
                simp only [puts, Act.put, List.setIfInBounds_toArray, List.set_cons_zero, List.set_cons_succ] at hK ⊢
                go_simp
                exact hK _ _ (Below.refl _ _) rfl hg
              refine Each.cons (fun vs W hl => ?_) ?_
              · apply with20 hl
                clear hl vs
                intro v0 v1 v2 v3 v4 v5 v6 v7 v8 v9 v10 v11 v12 v13 v14 v15 v16 v17 v18 v19 hg hnew hd K hK
                have d6 : v6 = Value.pointer (some ⟨gc, io * 9, none⟩) := hd 6 v6 (by kernel_rfl) rfl
                subst d6
                clear hd
                clear hnew
                rw [if_pos (by kernel_rfl)]
                simp only [puts, Act.put, List.setIfInBounds_toArray, List.set_cons_zero, List.set_cons_succ] at hK ⊢
                go_simp
                exact hK _ _ (Below.refl _ _) rfl hg
              refine Each.cons (fun vs W hl => ?_) ?_
              · apply with20 hl
                clear hl vs
                intro v0 v1 v2 v3 v4 v5 v6 v7 v8 v9 v10 v11 v12 v13 v14 v15 v16 v17 v18 v19 hg hnew hd K hK
                have d7 : v7 = Value.pointer (some ⟨gc, io * 9, none⟩) := hd 7 v7 (by kernel_rfl) rfl
                subst d7
                clear hd
                clear hnew
                rw [if_pos (by kernel_rfl)]
                simp only [puts, Act.put, List.setIfInBounds_toArray, List.set_cons_zero, List.set_cons_succ] at hK ⊢
                go_simp
                exact hK _ _ (Below.refl _ _) rfl hg
              refine Each.cons (fun vs W hl => ?_) ?_
              · apply with20 hl
                clear hl vs
                intro v0 v1 v2 v3 v4 v5 v6 v7 v8 v9 v10 v11 v12 v13 v14 v15 v16 v17 v18 v19 hg hnew hd K hK
                have d8 : v8 = Value.pointer (some ⟨gc, io * 9 + 8, none⟩) := hd 8 v8 (by kernel_rfl) rfl
                subst d8
                clear hd
                clear hnew
                rw [if_pos (by kernel_rfl)]
                simp only [puts, Act.put, List.setIfInBounds_toArray, List.set_cons_zero, List.set_cons_succ] at hK ⊢
                have e8 := (below_cell hg (World.block_lt_of_cell? wr _ C8.out)).trans C8.out
                go_simp
                exact hK _ _ (Below.refl _ _) rfl hg
              refine Each.cons (fun vs W hl => ?_) ?_
              · apply with20 hl
                clear hl vs
                intro v0 v1 v2 v3 v4 v5 v6 v7 v8 v9 v10 v11 v12 v13 v14 v15 v16 v17 v18 v19 hg hnew hd K hK
                clear hd
                clear hnew
                rw [if_pos (by kernel_rfl)]
                simp only [puts, Act.put, List.setIfInBounds_toArray, List.set_cons_zero, List.set_cons_succ] at hK ⊢
                go_simp
                exact hK _ _ (Below.refl _ _) rfl hg
              refine Each.cons (fun vs W hl => ?_) ?_
              · apply with20 hl
                clear hl vs
                intro v0 v1 v2 v3 v4 v5 v6 v7 v8 v9 v10 v11 v12 v13 v14 v15 v16 v17 v18 v19 hg hnew hd K hK
                have d9 : v9 = Value.slice (some ⟨ga, 0, none⟩) m cp := hd 9 v9 (by kernel_rfl) rfl
                subst d9
                have d10 : v10 = Value.int IntKind.i64 (k : Int) := hd 10 v10 (by kernel_rfl) rfl
                subst d10
                clear hd
                clear hnew
                rw [if_pos (by kernel_rfl)]
                simp only [puts, Act.put, List.setIfInBounds_toArray, List.set_cons_zero, List.set_cons_succ] at hK ⊢
                go_simp
                exact hK _ _ (Below.refl _ _) rfl hg
              refine Each.cons (fun vs W hl => ?_) ?_
              · apply with20 hl
                clear hl vs
                intro v0 v1 v2 v3 v4 v5 v6 v7 v8 v9 v10 v11 v12 v13 v14 v15 v16 v17 v18 v19 hg hnew hd K hK
                have d11 : v11 = Value.pointer (some ⟨ga, k * 6, none⟩) := hd 11 v11 (by kernel_rfl) rfl
                subst d11
                clear hd
                clear hnew
                rw [if_pos (by kernel_rfl)]
                simp only [puts, Act.put, List.setIfInBounds_toArray, List.set_cons_zero, List.set_cons_succ] at hK ⊢
                go_simp
                exact hK _ _ (Below.refl _ _) rfl hg
              refine Each.cons (fun vs W hl => ?_) ?_
              · apply with20 hl
                clear hl vs
                intro v0 v1 v2 v3 v4 v5 v6 v7 v8 v9 v10 v11 v12 v13 v14 v15 v16 v17 v18 v19 hg hnew hd K hK
                have d12 : v12 = Value.pointer (some ⟨ga, k * 6 + 3, none⟩) := hd 12 v12 (by kernel_rfl) rfl
                subst d12
                clear hd
                clear hnew
                rw [if_pos (by kernel_rfl)]
                simp only [puts, Act.put, List.setIfInBounds_toArray, List.set_cons_zero, List.set_cons_succ] at hK ⊢
                go_simp
                exact hK _ _ (Below.refl _ _) rfl hg
              refine Each.cons (fun vs W hl => ?_) ?_
              · apply with20 hl
                clear hl vs
                intro v0 v1 v2 v3 v4 v5 v6 v7 v8 v9 v10 v11 v12 v13 v14 v15 v16 v17 v18 v19 hg hnew hd K hK
                have d13 : v13 = Value.pointer (some ⟨ga, k * 6 + 5, none⟩) := hd 13 v13 (by kernel_rfl) rfl
                subst d13
                clear hd
                clear hnew
                rw [if_pos (by kernel_rfl)]
                simp only [puts, Act.put, List.setIfInBounds_toArray, List.set_cons_zero, List.set_cons_succ] at hK ⊢
                have e5 := (below_cell hg (World.block_lt_of_cell? wr _ K5.out)).trans K5.out
                go_simp
                exact hK _ _ (Below.refl _ _) rfl hg
              refine Each.cons (fun vs W hl => ?_) ?_
              · apply with20 hl
                clear hl vs
                intro v0 v1 v2 v3 v4 v5 v6 v7 v8 v9 v10 v11 v12 v13 v14 v15 v16 v17 v18 v19 hg hnew hd K hK
                have d14 : v14 = Value.string b := hd 14 v14 (by kernel_rfl) rfl
                subst d14
                clear hd
                clear hnew
                rw [if_pos (by kernel_rfl)]
                simp only [puts, Act.put, List.setIfInBounds_toArray, List.set_cons_zero, List.set_cons_succ] at hK ⊢
                go_simp
                exact hK _ _ (Below.refl _ _) rfl hg
              refine Each.cons (fun vs W hl => ?_) ?_
              · apply with20 hl
                clear hl vs
                intro v0 v1 v2 v3 v4 v5 v6 v7 v8 v9 v10 v11 v12 v13 v14 v15 v16 v17 v18 v19 hg hnew hd K hK
                have d5 : v5 = Value.string ⟨#[x]⟩ := hd 5 v5 (by kernel_rfl) rfl
                subst d5
                have d15 : v15 = Value.int IntKind.i64 ((b.size : Nat) : Int) := hd 15 v15 (by kernel_rfl) rfl
                subst d15
                clear hd
                clear hnew
                rw [if_pos (by kernel_rfl)]
                simp only [puts, Act.put, List.setIfInBounds_toArray, List.set_cons_zero, List.set_cons_succ] at hK ⊢
                go_simp
                refine (repeat_one x b.size W HBZ.out).mono ?_
                rintro e w' ⟨rfl, hk⟩
                exact hK _ _ hk rfl (below_below hg hk)
              refine Each.cons (fun vs W hl => ?_) ?_
              · apply with20 hl
                clear hl vs
                intro v0 v1 v2 v3 v4 v5 v6 v7 v8 v9 v10 v11 v12 v13 v14 v15 v16 v17 v18 v19 hg hnew hd K hK
                have d3 : v3 = Value.slice (some ⟨ga, 0, none⟩) m cp := hd 3 v3 (by kernel_rfl) rfl
                subst d3
                have d4 : v4 = Value.int IntKind.i64 (k : Int) := hd 4 v4 (by kernel_rfl) rfl
                subst d4
                clear hd
                clear hnew
                rw [if_pos (by kernel_rfl)]
                simp only [puts, Act.put, List.setIfInBounds_toArray, List.set_cons_zero, List.set_cons_succ] at hK ⊢
                go_simp
                exact hK _ _ (Below.refl _ _) rfl hg
              refine Each.cons (fun vs W hl => ?_) ?_
              · apply with20 hl
                clear hl vs
                intro v0 v1 v2 v3 v4 v5 v6 v7 v8 v9 v10 v11 v12 v13 v14 v15 v16 v17 v18 v19 hg hnew hd K hK
                have d17 : v17 = Value.pointer (some ⟨ga, k * 6, none⟩) := hd 17 v17 (by kernel_rfl) rfl
                subst d17
                clear hd
                clear hnew
                rw [if_pos (by kernel_rfl)]
                simp only [puts, Act.put, List.setIfInBounds_toArray, List.set_cons_zero, List.set_cons_succ] at hK ⊢
                go_simp
                exact hK _ _ (Below.refl _ _) rfl hg
              refine Each.cons (fun vs W hl => ?_) ?_
              · apply with20 hl
                clear hl vs
                intro v0 v1 v2 v3 v4 v5 v6 v7 v8 v9 v10 v11 v12 v13 v14 v15 v16 v17 v18 v19 hg hnew hd K hK
                have d18 : v18 = Value.pointer (some ⟨ga, k * 6 + 3, none⟩) := hd 18 v18 (by kernel_rfl) rfl
                subst d18
                clear hd
                clear hnew
                rw [if_pos (by kernel_rfl)]
                simp only [puts, Act.put, List.setIfInBounds_toArray, List.set_cons_zero, List.set_cons_succ] at hK ⊢
                go_simp
                exact hK _ _ (Below.refl _ _) rfl hg
              exact Each.nil
            · intro vs W hl
              apply with20 hl
              clear hl vs
              intro v0 v1 v2 v3 v4 v5 v6 v7 v8 v9 v10 v11 v12 v13 v14 v15 v16 v17 v18 v19 hg hall
              have d0 : v0 = Value.pointer (some ⟨gc, io * 9, none⟩) := hall 0 v0 rfl
              subst d0
              have d1 : v1 = Value.pointer (some ⟨gc, io * 9, none⟩) := hall 1 v1 rfl
              subst d1
              have d2 : v2 = Value.pointer (some ⟨gc, io * 9 + 8, none⟩) := hall 2 v2 rfl
              subst d2
              have d3 : v3 = Value.slice (some ⟨ga, 0, none⟩) m cp := hall 3 v3 rfl
              subst d3
              have d4 : v4 = Value.int IntKind.i64 (k : Int) := hall 4 v4 rfl
              subst d4
              have d5 : v5 = Value.string ⟨#[x]⟩ := hall 5 v5 rfl
              subst d5
              have d6 : v6 = Value.pointer (some ⟨gc, io * 9, none⟩) := hall 6 v6 rfl
              subst d6
              have d7 : v7 = Value.pointer (some ⟨gc, io * 9, none⟩) := hall 7 v7 rfl
              subst d7
              have d8 : v8 = Value.pointer (some ⟨gc, io * 9 + 8, none⟩) := hall 8 v8 rfl
              subst d8
              have d9 : v9 = Value.slice (some ⟨ga, 0, none⟩) m cp := hall 9 v9 rfl
              subst d9
              have d10 : v10 = Value.int IntKind.i64 (k : Int) := hall 10 v10 rfl
              subst d10
              have d11 : v11 = Value.pointer (some ⟨ga, k * 6, none⟩) := hall 11 v11 rfl
              subst d11
              have d12 : v12 = Value.pointer (some ⟨ga, k * 6 + 3, none⟩) := hall 12 v12 rfl
              subst d12
              have d13 : v13 = Value.pointer (some ⟨ga, k * 6 + 5, none⟩) := hall 13 v13 rfl
              subst d13
              have d14 : v14 = Value.string b := hall 14 v14 rfl
              subst d14
              have d15 : v15 = Value.int IntKind.i64 ((b.size : Nat) : Int) := hall 15 v15 rfl
              subst d15
              have d16 : v16 = Value.string ⟨Array.replicate b.size x⟩ := hall 16 v16 rfl
              subst d16
              have d17 : v17 = Value.pointer (some ⟨ga, k * 6, none⟩) := hall 17 v17 rfl
              subst d17
              have d18 : v18 = Value.pointer (some ⟨ga, k * 6 + 3, none⟩) := hall 18 v18 rfl
              subst d18
              have d19 : v19 = Value.pointer (some ⟨ga, k * 6 + 5, none⟩) := hall 19 v19 rfl
              subst d19
              clear hall
              simp only [puts, Act.put, List.setIfInBounds_toArray, List.set_cons_zero, List.set_cons_succ, List.take_succ_cons, List.take_zero, List.drop_succ_cons, List.drop_zero]
              have BR := hd hg
              clear hg
              obtain ⟨hpi, hq⟩ := HPT.out
              obtain ⟨hks, ha⟩ := HAK.out
              have hov := (HZ.out.keep BR.out).own.ats _ (List.getElem_mem hpi)
              rw [hq] at hov
              have e5 := (below_cell BR.out (World.block_lt_of_cell? wr _ K5.out)).trans K5.out
              have f5 : W.frozen? ⟨ga, k * 6 + 5, none⟩ = false := own_fz hov.2 (k * 6 + 5)
              have hnew := (HZ.out.keep BR.out).setA HLB.out hpi hq hks ha (u := ⟨Array.replicate b.size x⟩) (by show (Array.replicate b.size x).size = _; rw [Array.size_replicate])
              clear hpi hq hks ha hov HPT HAK HZ C8 K5
              go_wp2_with fail
              clear e5 f5
              generalize W.setCell ⟨ga, k * 6 + 5, none⟩ (.string ⟨Array.replicate b.size x⟩) = w12 at *
              obtain ⟨pt2, hpi2, hz2, hq2⟩ := hnew
              go_roundw
              case rel => exact ⟨k + 1, pt2, hpi2, _, by omega, by go_num, hz2, hq2, by show (s.ats.set k _).length = m; rw [List.length_set]; exact HSL.out⟩
              case measure => simp [intOf]; omega
          · have hkb : (kk == 2) = false := beq_eq_false_iff_ne.2 hkk
            go_wp2_with fail
            obtain ⟨hpi, hq⟩ := HPT.out
            go_roundw
            case rel => exact ⟨k + 1, pt, hpi, s, by omega, by go_num, HZ.out, hq, HSL.out⟩
            case measure => simp [intOf]; omega
        · have hkl2 : ¬ (k : Int) < (m : Int) := by omega
          clear hpi hq
          go_wp2_with fail
          clear c8
          go_roundw
          case rel => exact ⟨io + 1, pt, by omega, by go_num, HZ.out⟩
          case measure => simp [intOf]; omega
    · have hnl : ¬ (io : Int) < (n : Int) := by omega
      have b0 := HZ.out.bk.cell 0
      have b1 := HZ.out.bk.cell 1
      simp at b0 b1
      go_wp2_with fail
      have HBT := bytesB_any (ag := ag) (sq := sq) HZ.out.own.sps HZ.out.wf
      have hlk := okB_like HOK.out (ys := spd ps) (by rw [← HBB.out]; exact HZ.out.like)
      rw [← HBB.out] at hlk
      simp only at hlk
      rw [hlk.1] at HBT
      simp only [if_true] at HBT
      have HLE := hd hlk.2
      clear hlk
      refine HBT.mono ?_
      rintro e w12 ⟨a12, n12, p12, rfl, hn12, ho12, hk⟩
      have HE : Hid (n3 = n12) := hd (by rw [← HN3.out, ← hn12, HLE.out, HBB.out])
      have BE := hd (below_below HZ.out.bel hk)
      clear hk ho12 hn12 HBT b0 b1 b2
      have hn := HE.out
      subst hn
      go_wp2_with fail
      go_ret
      exact VEnd.mk BE.out

end Go.Proofs.Yteifaipbckhoiaa
