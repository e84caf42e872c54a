/- PolicyFinds: walk of policies that may be. -/
import Derived.Test.YtcigbfjmnhogiaaGreatDoorFd
import Derived.Test.YtcigbfjmnhogiaaGreatDoorWk
import Derived.Test.YtcigbfjmnhogiaaGreatDoorDd
import Derived.Deep.RegionHeld3
namespace Go.Proofs.YtcigbfjmnhogiaaGreatDoor
open Go.RowKit
set_option linter.unusedVariables false


/-- The label that was met of a name, after k rules. -/
def labK (rs : List RuleD) (n : ByteArray) (k : Nat) : Int × Int := if has (α := RuleD) Prod.fst n (rs.take k) then (rs[pos (α := RuleD) Prod.fst n rs]!).2 else (0, 0)
theorem has_take {α : Type} {nm : α → ByteArray} {xs : List α} {n : ByteArray} {k : Nat} (hk : k < xs.length) : has nm n (xs.take (k + 1)) = (has nm n (xs.take k) || eqs (nm xs[k]) n) := by
  unfold has
  rw [List.take_succ_eq_append_getElem hk, List.any_append]
  simp
theorem fnd_eq {a q e r : Bool} (h : e = q) (hr : r = (a || q)) : Value.bool r = Value.bool (a || e) := by rw [h, hr]
theorem labK_zero (rs : List RuleD) (n : ByteArray) : labK rs n 0 = (0, 0) := rfl
theorem labK_hit {rs : List RuleD} {n : ByteArray} {k : Nat} (h : Srt (α := RuleD) Prod.fst rs) (hk : k < rs.length) (he : eqs rs[k].1 n = true) : labK rs n (k + 1) = rs[k].2 := by
  unfold labK
  rw [has_take hk, he, Bool.or_true, if_pos rfl, ← (eqs_iff _ _).1 he, pos_self h k hk, getElem!_pos rs k hk]
theorem labK_miss {rs : List RuleD} {n : ByteArray} {k : Nat} (hk : k < rs.length) (he : eqs rs[k].1 n = false) : labK rs n (k + 1) = labK rs n k := by
  unfold labK
  rw [has_take hk, he, Bool.or_false]
theorem labK_all {rs : List RuleD} {qs : List ReaderD} {n : ByteArray} {k : Nat} (hf : okPol rs qs = true) (hk : k = rs.length) : labK rs n k = lblOf rs qs n := by
  unfold labK lblOf
  rw [hk, List.take_length, hf, Bool.true_and]
theorem lbl_self {rs : List RuleD} {qs : List ReaderD} {k : Nat} (hf : okPol rs qs = true) (hk : k < rs.length) : lblOf rs qs rs[k].1 = rs[k].2 := by
  unfold lblOf
  rw [hf, has_self (List.getElem_mem hk), Bool.true_and, if_pos rfl, pos_self (okPol_srt hf).1 k hk, getElem!_pos rs k hk]
theorem rdr_self {rs : List RuleD} {qs : List ReaderD} {k : Nat} (hf : okPol rs qs = true) (hk : k < qs.length) : rdrOf rs qs qs[k].1 = (qs[k], true) := by
  unfold rdrOf
  rw [hf, has_self (List.getElem_mem hk), Bool.true_and, if_pos rfl, pos_self (okPol_srt hf).2.1 k hk, getElem!_pos qs k hk]
theorem rdr_has {rs : List RuleD} {qs : List ReaderD} {n : ByteArray} (hf : okPol rs qs = true) : (rdrOf rs qs n).2 = has (α := ReaderD) Prod.fst n qs := by
  unfold rdrOf
  rw [hf, Bool.true_and]
  cases has (α := ReaderD) Prod.fst n qs <;> rfl

set_option maxRecDepth 100000 in
set_option maxHeartbeats 8000000 in
theorem finds_good {w : World} {u v : Value} {rs : List RuleD} {qs : List ReaderD} (n : ByteArray) (hf : okPol rs qs = true) (hr : El encR 3 w u rs) (hq : El encQ 5 w v qs) (h8 : 8 ≤ w.heap.size) (hg : Glob w) :
    Calls Tryz.prog 7 #[.agg #[u, v], .string n] w fun e w' => VEnd w (.bool true) e w' := by
  obtain ⟨u0, cu, rfl⟩ := hr.form
  obtain ⟨v0, cv, rfl⟩ := hq.form
  have K1 := hr.len
  have K2 := hq.len
  have HR := hd hr
  have HQ := hd hq
  have HG := hd hg
  have H8 := hd h8
  have HF := hd hf
  clear hr hq hg h8 hf
  obtain ⟨n1, h1⟩ : ∃ k, rs.length = k := ⟨_, rfl⟩
  obtain ⟨n2, h2⟩ : ∃ k, qs.length = k := ⟨_, rfl⟩
  rw [h1] at HR K1 ⊢
  rw [h2] at HQ K2 ⊢
  have HN1 := hd h1
  have HN2 := hd h2
  clear h1 h2
  go_enter Tryz.func7, Tryz.ntmps7
  go_wp2_with fail
  have a1 := Bk.new w 25 #[Value.slice u0 n1 cu, Value.slice v0 n2 cv]
  have k1 := below1 w (Obj.cells #[Value.slice u0 n1 cu, Value.slice v0 n2 cv] 25)
  generalize w.alloc (Obj.cells #[Value.slice u0 n1 cu, Value.slice v0 n2 cv] 25) = w1 at *
  obtain ⟨bx, hb1⟩ : ∃ b, w.heap.size = b := ⟨_, rfl⟩
  have HBB := hd hb1
  rw [hb1] at a1 ⊢
  clear hb1
  refine (works_true w1 (Nat.le_trans H8.out k1.size) (HG.out.keep k1)).mono ?_
  rintro e w2 ⟨rfl, hk2⟩
  have A0 := hd (a1.keep hk2)
  have B0 := hd (below_below k1 hk2)
  clear a1 k1 hk2
  have d0 := A0.out.cell 0
  have d1 := A0.out.cell 1
  simp at d0 d1
  go_wp2_with fail
  refine (check_pol (HR.out.keep B0.out) (HQ.out.keep B0.out)).mono ?_
  rintro e w3 ⟨rfl, hk3⟩
  rw [HF.out]
  simp only [ckI, if_true]
  have A1 := hd (A0.out.keep hk3)
  have B1 := hd (below_below B0.out hk3)
  have P1 : Hid (bx < w3.heap.size) := hd A1.out.lt
  clear hk3 A0 B0 d0 d1
  go_wp2_with fail
  have L2 := hd (Bk.new w3 32 #[Value.int IntKind.i64 0, Value.int IntKind.u32 0])
  have A2 := hd (A1.out.alloc (Obj.cells #[Value.int IntKind.i64 0, Value.int IntKind.u32 0] 32))
  have B2 := hd (below_below B1.out (below1 w3 (Obj.cells #[Value.int IntKind.i64 0, Value.int IntKind.u32 0] 32)))
  have HLW : Hid (w.heap.size ≤ w3.heap.size) := hd B1.out.size
  generalize w3.alloc (Obj.cells #[Value.int IntKind.i64 0, Value.int IntKind.u32 0] 32) = w4 at *
  generalize w3.heap.size = lb at *
  have HBL : Hid (bx ≠ lb) := hd (Nat.ne_of_lt P1.out)
  have HBL2 : Hid (lb ≠ bx) := hd (fun e => HBL.out e.symm)
  clear A1 B1 P1
  go_loopw [7] (fun i wr => ∃ (k : Nat) (x p : Int), k ≤ n1 ∧ i = .int .i64 (k : Int) ∧ labK rs n k = (x, p) ∧ Below w.heap.size w wr ∧ Bk wr bx 25 #[Value.slice u0 n1 cu, Value.slice v0 n2 cv] ∧ Bk wr lb 32 #[.int .i64 x, .int .u32 p]) (fun i _ => n1 - (intOf i).toNat)
  case atStart => exact ⟨0, 0, 0, Nat.zero_le _, rfl, rfl, B2.out, A2.out, L2.out⟩
  case round =>
    obtain ⟨k, x, p, hkn, rfl, hl, hb, ha, hlb⟩ := hrel
    have HL := hd hl
    have HB := hd hb
    have HA := hd ha
    have HLB := hd hlb
    clear hl hb ha hlb A2 B2 L2
    have d0 := HA.out.cell 0
    have d1 := HA.out.cell 1
    simp at d0 d1
    by_cases hlt : k < n1
    · have hlz : (k : Int) < (n1 : Int) := by omega
      have hxk : k < rs.length := by rw [HN1.out]; omega
      obtain ⟨⟨s1, x1, p1⟩, he1⟩ : ∃ r : RuleD, rs[k]'hxk = r := ⟨_, rfl⟩
      obtain ⟨g, off, hx, hcx, _, c10, c11, c12⟩ := HR.out.atR HB.out HN1.out hlt he1
      subst hx
      have HE1 := hd he1
      clear he1
      obtain ⟨q, hq⟩ : ∃ q, eqs s1 n = q := ⟨_, rfl⟩
      have HQE := hd hq
      have hqq : (s1.toList == n.toList) = q := by rw [eqs_toList]; exact hq
      clear hq
      have HLS : Hid (∀ s : Ltr wr, Calls Tryz.prog 18 #[.agg #[.slice (some ⟨g, off, none⟩) n1 cu, .slice v0 n2 cv], .string s1] s.wd fun e w' => VEnd s.wd (.agg #[.int .i64 x1, .int .u32 p1]) e w') := hd fun s => by
        have h := label_pol s1 (HR.out.keep (below_below HB.out s.bel)) (HQ.out.keep (below_below HB.out s.bel))
        have e := lbl_self HF.out hxk
        rw [HE1.out] at e
        rw [e] at h
        exact h
      have e24 : ∀ w, (Op.equalIn 10000 32 (.agg #[.int .i64 x1, .int .u32 p1]) (.agg #[.int .i64 x1, .int .u32 p1])).run Tryz.prog w = .ok true w := fun w => by rw [eq24]; simp
      go_wp2_with fail
      have D0 := hd d0
      have D1 := hd d1
      have C10 := hd c10
      have C11 := hd c11
      have C12 := hd c12
      have d0 := Ltr.cell D0.out
      have d1 := Ltr.cell D1.out
      have c10 := Ltr.cell C10.out
      have c11 := Ltr.cell C11.out
      have c12 := Ltr.cell C12.out
      have hany := Ltr.any wr
      refine wp_region_later (by kernel_rfl) (by kernel_rfl) ?_
      repeat (go_big_quiet_step (first | (go_at_call 18; exact later_of (HLS.out _)) | fail))
      refine wpQuiet_nil ?_
      rintro _ ⟨s, rfl⟩
      have HS := hd (below_below HB.out s.bel)
      have HA3 := hd (HA.out.keep s.bel)
      have HL3 := hd (HLB.out.keep s.bel)
      have c10 := s.cell C10.out
      have c11 := s.cell C11.out
      have c12 := s.cell C12.out
      clear hany d0 d1 D0 D1 C10 C11 C12 e24
      generalize s.wd = w2 at *
      have d0 := HA3.out.cell 0
      have d1 := HA3.out.cell 1
      simp at d0 d1
      cases q
      · go_wp2_with fail
        go_roundw
        case rel =>
          exact ⟨k + 1, x, p, by omega, by go_num, by rw [labK_miss hxk (by rw [HE1.out]; exact HQE.out)]; exact HL.out, HS.out, HA3.out, HL3.out⟩
        case measure => simp [intOf]; omega
      · have f0 := HL3.out.fz 0
        have f1 := HL3.out.fz 1
        have l0 := HL3.out.cell 0
        have l1 := HL3.out.cell 1
        simp at l0 l1
        go_wp2_with fail
        go_roundw
        case rel =>
          refine ⟨k + 1, x1, p1, by omega, by go_num, by rw [labK_hit (okPol_srt HF.out).1 hxk (by rw [HE1.out]; exact HQE.out), HE1.out], below_setCell (below_setCell HS.out ⟨lb, 0, none⟩ _ HLW.out) ⟨lb, 1, none⟩ _ HLW.out, (HA3.out.other ⟨lb, 0, none⟩ _ HBL.out).other ⟨lb, 1, none⟩ _ HBL.out, (HL3.out.set 0 _).set 1 _⟩
        case measure => simp [intOf]; omega
    · have hnl : ¬ (k : Int) < (n1 : Int) := by omega
      have HLL : Hid (lblOf rs qs n = (x, p)) := hd (by rw [← labK_all (k := k) HF.out (by rw [HN1.out]; omega)]; exact HL.out)
      clear hlt
      go_wp2_with fail
      clear d0 d1 hnl
      go_loopw [8, 9] (fun fnd i wr => ∃ k : Nat, k ≤ n2 ∧ fnd = .bool (has (α := ReaderD) Prod.fst n (qs.take k)) ∧ i = .int .i64 (k : Int) ∧ Below w.heap.size w wr ∧ Bk wr bx 25 #[Value.slice u0 n1 cu, Value.slice v0 n2 cv] ∧ Bk wr lb 32 #[.int .i64 x, .int .u32 p]) (fun _ i _ => n2 - (intOf i).toNat)
      case atStart => exact ⟨0, Nat.zero_le _, rfl, rfl, HB.out, HA.out, HLB.out⟩
      case round =>
        clear HL HB HA HLB
        obtain ⟨k, hkn, rfl, rfl, hb, ha, hlb⟩ := hrel
        have HB := hd hb
        have HA := hd ha
        have HLB := hd hlb
        clear hb ha hlb
        have d0 := HA.out.cell 0
        have d1 := HA.out.cell 1
        simp at d0 d1
        obtain ⟨fk, hfk⟩ : ∃ fk, has (α := ReaderD) Prod.fst n (qs.take k) = fk := ⟨_, rfl⟩
        rw [hfk]
        have HFK := hd hfk
        clear hfk
        by_cases hlt : k < n2
        · have hlz : (k : Int) < (n2 : Int) := by omega
          have hxk : k < qs.length := by rw [HN2.out]; omega
          obtain ⟨⟨s1, x1, p1, a1, b1⟩, he1⟩ : ∃ r : ReaderD, qs[k]'hxk = r := ⟨_, rfl⟩
          obtain ⟨g, off, hx, hcx, _, c10, c11, c12, c13, c14⟩ := HQ.out.atQ HB.out HN2.out hlt he1
          subst hx
          have HE1 := hd he1
          clear he1
          obtain ⟨q, hq⟩ : ∃ q, eqs s1 n = q := ⟨_, rfl⟩
          have HQE := hd hq
          have hqq : (s1.toList == n.toList) = q := by rw [eqs_toList]; exact hq
          clear hq
          have HRD : Hid (∀ w', Below wr.heap.size wr w' → Calls Tryz.prog 12 #[.agg #[.slice u0 n1 cu, .slice (some ⟨g, off, none⟩) n2 cv], .string s1] w' fun e w'' => e = .returned (.tuple #[.agg #[.string s1, .int .i64 x1, .int .u32 p1, .int .i64 a1, .int .i64 b1], .bool true]) ∧ Below w'.heap.size w' w'') := hd fun w' hb' => by
            have h := reader_pol s1 (HR.out.keep (below_below HB.out hb')) (HQ.out.keep (below_below HB.out hb'))
            have e := rdr_self HF.out hxk
            rw [HE1.out] at e
            simp only at e
            rw [e] at h
            exact h
          have D0 := hd d0
          have D1 := hd d1
          have C0 := hd c10
          have C1 := hd c11
          have C2 := hd c12
          have C3 := hd c13
          have C4 := hd c14
          have hg0 : ¬ g = wr.heap.size := Nat.ne_of_lt (World.block_lt_of_cell? wr _ c10)
          have hbx0 : ¬ bx = wr.heap.size := Nat.ne_of_lt HA.out.lt
          have hg1 : ¬ wr.heap.size = g := fun e => hg0 e.symm
          have hbx1 : ¬ wr.heap.size = bx := fun e => hbx0 e.symm
          go_wp2_with fail
          go_region_held3 (fun W => W.cell? ⟨bx, 0, none⟩ = some (.slice u0 n1 cu) ∧ W.cell? ⟨bx, 1, none⟩ = some (.slice (some ⟨g, off, none⟩) n2 cv) ∧ W.cell? ⟨g, off + k * 5, none⟩ = some (.string s1) ∧ W.cell? ⟨g, off + k * 5 + 1, none⟩ = some (.int .i64 x1) ∧ W.cell? ⟨g, off + k * 5 + 2, none⟩ = some (.int .u32 p1) ∧ W.cell? ⟨g, off + k * 5 + 3, none⟩ = some (.int .i64 a1) ∧ W.cell? ⟨g, off + k * 5 + 4, none⟩ = some (.int .i64 b1)) (first | exact ⟨by with_reducible assumption, by with_reducible assumption, by with_reducible assumption, by with_reducible assumption, by with_reducible assumption, by with_reducible assumption, by with_reducible assumption⟩ | go_keep) (first | (go_at_call 12; refine (HRD.out wr.drew (Below.refl _ _).drew).mono ?_; rintro e w5 ⟨rfl, hk⟩; have hb5 := below_below (Below.refl wr.heap.size wr).drew hk; have s0 : w5.cell? _ = some _ := Ltr.cell D0.out ⟨w5, hb5⟩; have s1' : w5.cell? _ = some _ := Ltr.cell D1.out ⟨w5, hb5⟩; have s2 : w5.cell? _ = some _ := Ltr.cell C0.out ⟨w5, hb5⟩; have s3 : w5.cell? _ = some _ := Ltr.cell C1.out ⟨w5, hb5⟩; have s4 : w5.cell? _ = some _ := Ltr.cell C2.out ⟨w5, hb5⟩; have s5 : w5.cell? _ = some _ := Ltr.cell C3.out ⟨w5, hb5⟩; have s6 : w5.cell? _ = some _ := Ltr.cell C4.out ⟨w5, hb5⟩; have HB5 := hd hb5; clear hb5 hk) | (go_at_call 12; refine (HRD.out (wr.alloc (Obj.cells #[Value.string ⟨#[]⟩, Value.int IntKind.i64 0, Value.int IntKind.u32 0, Value.int IntKind.i64 0, Value.int IntKind.i64 0] 34)).drew (below1 wr (Obj.cells #[Value.string ⟨#[]⟩, Value.int IntKind.i64 0, Value.int IntKind.u32 0, Value.int IntKind.i64 0, Value.int IntKind.i64 0] 34)).drew).mono ?_; rintro e w5 ⟨rfl, hk⟩; have hb5 := below_below (below1 wr (Obj.cells #[Value.string ⟨#[]⟩, Value.int IntKind.i64 0, Value.int IntKind.u32 0, Value.int IntKind.i64 0, Value.int IntKind.i64 0] 34)).drew hk; have s0 : w5.cell? _ = some _ := Ltr.cell D0.out ⟨w5, hb5⟩; have s1' : w5.cell? _ = some _ := Ltr.cell D1.out ⟨w5, hb5⟩; have s2 : w5.cell? _ = some _ := Ltr.cell C0.out ⟨w5, hb5⟩; have s3 : w5.cell? _ = some _ := Ltr.cell C1.out ⟨w5, hb5⟩; have s4 : w5.cell? _ = some _ := Ltr.cell C2.out ⟨w5, hb5⟩; have s5 : w5.cell? _ = some _ := Ltr.cell C3.out ⟨w5, hb5⟩; have s6 : w5.cell? _ = some _ := Ltr.cell C4.out ⟨w5, hb5⟩; have HB5 := hd hb5; have A7 := (Bk.new wr 34 #[Value.string ⟨#[]⟩, Value.int IntKind.i64 0, Value.int IntKind.u32 0, Value.int IntKind.i64 0, Value.int IntKind.i64 0]).drew.keep hk; have HA7 := hd A7; have y0 := A7.fz 0; have y1 := A7.fz 1; have y2 := A7.fz 2; have y3 := A7.fz 3; have y4 := A7.fz 4; have t0 := A7.cell 0; have t1 := A7.cell 1; have t2 := A7.cell 2; have t3 := A7.cell 3; have t4 := A7.cell 4; simp at t0 t1 t2 t3 t4; clear A7 hb5 hk) | fail)
          · have T6 := Bk.new w5 34 #[Value.string s1, Value.int IntKind.i64 x1, Value.int IntKind.u32 p1, Value.int IntKind.i64 a1, Value.int IntKind.i64 b1]
            have B6 := below_below HB5.out (below1 w5 (Obj.cells #[Value.string s1, Value.int IntKind.i64 x1, Value.int IntKind.u32 p1, Value.int IntKind.i64 a1, Value.int IntKind.i64 b1] 34))
            clear s0 s1' s2 s3 s4 s5 s6 d0 d1 c10 c11 c12 c13 c14
            generalize w5.alloc (Obj.cells #[Value.string s1, Value.int IntKind.i64 x1, Value.int IntKind.u32 p1, Value.int IntKind.i64 a1, Value.int IntKind.i64 b1] 34) = W6 at *
            generalize w5.heap.size = tb at *

            have A6 := hd (HA.out.keep B6)
            have L6 := hd (HLB.out.keep B6)
            have BB6 := hd (below_below HB.out B6)
            have d0 := A6.out.cell 0
            have d1 := A6.out.cell 1
            have t0 := T6.cell 0
            have t1 := T6.cell 1
            have t2 := T6.cell 2
            have t3 := T6.cell 3
            have t4 := T6.cell 4
            simp at d0 d1 t0 t1 t2 t3 t4
            have c10 : W6.cell? _ = some _ := Ltr.cell C0.out ⟨W6, B6⟩
            have c11 : W6.cell? _ = some _ := Ltr.cell C1.out ⟨W6, B6⟩
            have c12 : W6.cell? _ = some _ := Ltr.cell C2.out ⟨W6, B6⟩
            have c13 : W6.cell? _ = some _ := Ltr.cell C3.out ⟨W6, B6⟩
            have c14 : W6.cell? _ = some _ := Ltr.cell C4.out ⟨W6, B6⟩
            have e34 : ∀ w, (Op.equalIn 10000 34 (.agg #[.string s1, .int .i64 x1, .int .u32 p1, .int .i64 a1, .int .i64 b1]) (.agg #[.string s1, .int .i64 x1, .int .u32 p1, .int .i64 a1, .int .i64 b1])).run Tryz.prog w = .ok true w := fun w => by
              rw [eq34, (sameQ_iff (s1, x1, p1, a1, b1) (s1, x1, p1, a1, b1)).2 rfl]
            have HB6 := hd B6
            clear T6 B6 hg0 hg1 hbx0 hbx1
            go_wp2_with fail
            go_quiet (fail)
            have K7 : Below W6.heap.size W6 (W6.drewN nq) := below_drewN (Below.refl _ _) nq
            clear d0 d1 t0 t1 t2 t3 t4 c10 c11 c12 c13 c14 e34
            have HS := hd (below_below BB6.out K7)
            have A7 := hd (A6.out.keep K7)
            have L7 := hd (L6.out.keep K7)
            have B7 := below_below HB6.out K7
            generalize W6.drewN nq = W7 at *
            have d0 := A7.out.cell 0
            have d1 := A7.out.cell 1
            simp at d0 d1
            have c10 : W7.cell? _ = some _ := Ltr.cell C0.out ⟨W7, B7⟩
            have c11 : W7.cell? _ = some _ := Ltr.cell C1.out ⟨W7, B7⟩
            have c12 : W7.cell? _ = some _ := Ltr.cell C2.out ⟨W7, B7⟩
            have c13 : W7.cell? _ = some _ := Ltr.cell C3.out ⟨W7, B7⟩
            have c14 : W7.cell? _ = some _ := Ltr.cell C4.out ⟨W7, B7⟩
            clear K7 B7
            cases fk <;> cases q
            all_goals
              go_wp2_with fail
              go_roundw
              case rel => exact ⟨k + 1, by omega, (by rw [has_take hxk, HFK.out, HE1.out]; exact fnd_eq HQE.out rfl), by go_num, HS.out, A7.out, L7.out⟩
              case measure => simp [intOf]; omega
          · have T6 : Bk (((((w5.setCell ⟨wr.heap.size, 0, none⟩ (.string s1)).setCell ⟨wr.heap.size, 1, none⟩ (.int .i64 x1)).setCell ⟨wr.heap.size, 2, none⟩ (.int .u32 p1)).setCell ⟨wr.heap.size, 3, none⟩ (.int .i64 a1)).setCell ⟨wr.heap.size, 4, none⟩ (.int .i64 b1)) wr.heap.size 34 #[Value.string s1, Value.int IntKind.i64 x1, Value.int IntKind.u32 p1, Value.int IntKind.i64 a1, Value.int IntKind.i64 b1] := (((((HA7.out.set 0 (.string s1)).set 1 (.int .i64 x1)).set 2 (.int .u32 p1)).set 3 (.int .i64 a1)).set 4 (.int .i64 b1))
            have B6 := (below_setCell (below_setCell (below_setCell (below_setCell (below_setCell HB5.out ⟨wr.heap.size, 0, none⟩ (.string s1) (Nat.le_refl _)) ⟨wr.heap.size, 1, none⟩ (.int .i64 x1) (Nat.le_refl _)) ⟨wr.heap.size, 2, none⟩ (.int .u32 p1) (Nat.le_refl _)) ⟨wr.heap.size, 3, none⟩ (.int .i64 a1) (Nat.le_refl _)) ⟨wr.heap.size, 4, none⟩ (.int .i64 b1) (Nat.le_refl _))
            clear s0 s1' s2 s3 s4 s5 s6 d0 d1 c10 c11 c12 c13 c14 y0 y1 y2 y3 y4 t0 t1 t2 t3 t4
            generalize (((((w5.setCell ⟨wr.heap.size, 0, none⟩ (.string s1)).setCell ⟨wr.heap.size, 1, none⟩ (.int .i64 x1)).setCell ⟨wr.heap.size, 2, none⟩ (.int .u32 p1)).setCell ⟨wr.heap.size, 3, none⟩ (.int .i64 a1)).setCell ⟨wr.heap.size, 4, none⟩ (.int .i64 b1)) = W6 at *
            obtain ⟨tb, htb⟩ : ∃ tb, wr.heap.size = tb := ⟨_, rfl⟩
            rw [htb] at T6 ⊢
            clear htb

            have A6 := hd (HA.out.keep B6)
            have L6 := hd (HLB.out.keep B6)
            have BB6 := hd (below_below HB.out B6)
            have d0 := A6.out.cell 0
            have d1 := A6.out.cell 1
            have t0 := T6.cell 0
            have t1 := T6.cell 1
            have t2 := T6.cell 2
            have t3 := T6.cell 3
            have t4 := T6.cell 4
            simp at d0 d1 t0 t1 t2 t3 t4
            have c10 : W6.cell? _ = some _ := Ltr.cell C0.out ⟨W6, B6⟩
            have c11 : W6.cell? _ = some _ := Ltr.cell C1.out ⟨W6, B6⟩
            have c12 : W6.cell? _ = some _ := Ltr.cell C2.out ⟨W6, B6⟩
            have c13 : W6.cell? _ = some _ := Ltr.cell C3.out ⟨W6, B6⟩
            have c14 : W6.cell? _ = some _ := Ltr.cell C4.out ⟨W6, B6⟩
            have e34 : ∀ w, (Op.equalIn 10000 34 (.agg #[.string s1, .int .i64 x1, .int .u32 p1, .int .i64 a1, .int .i64 b1]) (.agg #[.string s1, .int .i64 x1, .int .u32 p1, .int .i64 a1, .int .i64 b1])).run Tryz.prog w = .ok true w := fun w => by
              rw [eq34, (sameQ_iff (s1, x1, p1, a1, b1) (s1, x1, p1, a1, b1)).2 rfl]
            have HB6 := hd B6
            clear T6 B6 hg0 hg1 hbx0 hbx1
            go_wp2_with fail
            go_quiet (fail)
            have K7 : Below W6.heap.size W6 (W6.drewN nq) := below_drewN (Below.refl _ _) nq
            clear d0 d1 t0 t1 t2 t3 t4 c10 c11 c12 c13 c14 e34
            have HS := hd (below_below BB6.out K7)
            have A7 := hd (A6.out.keep K7)
            have L7 := hd (L6.out.keep K7)
            have B7 := below_below HB6.out K7
            generalize W6.drewN nq = W7 at *
            have d0 := A7.out.cell 0
            have d1 := A7.out.cell 1
            simp at d0 d1
            have c10 : W7.cell? _ = some _ := Ltr.cell C0.out ⟨W7, B7⟩
            have c11 : W7.cell? _ = some _ := Ltr.cell C1.out ⟨W7, B7⟩
            have c12 : W7.cell? _ = some _ := Ltr.cell C2.out ⟨W7, B7⟩
            have c13 : W7.cell? _ = some _ := Ltr.cell C3.out ⟨W7, B7⟩
            have c14 : W7.cell? _ = some _ := Ltr.cell C4.out ⟨W7, B7⟩
            clear K7 B7
            cases fk <;> cases q
            all_goals
              go_wp2_with fail
              go_roundw
              case rel => exact ⟨k + 1, by omega, (by rw [has_take hxk, HFK.out, HE1.out]; exact fnd_eq HQE.out rfl), by go_num, HS.out, A7.out, L7.out⟩
              case measure => simp [intOf]; omega
        · have hnl : ¬ (k : Int) < (n2 : Int) := by omega
          have HKA := hd (show qs.take k = qs from List.take_of_length_le (by rw [HN2.out]; omega))
          clear hlt
          have HRN0 := reader_pol n (HR.out.keep HB.out) (HQ.out.keep HB.out)
          have hh := rdr_has (n := n) HF.out
          obtain ⟨⟨⟨s2, x2, p2, a2, b2⟩, is⟩, hrd⟩ : ∃ r, rdrOf rs qs n = r := ⟨_, rfl⟩
          rw [hrd] at HRN0 hh
          have hfk2 : is = fk := by
            have h := HFK.out
            rw [HKA.out] at h
            exact hh.trans h
          subst hfk2
          have HRN : Hid (Calls Tryz.prog 12 #[.agg #[.slice u0 n1 cu, .slice v0 n2 cv], .string n] wr fun e w' => VEnd wr (.tuple #[.agg #[.string s2, .int .i64 x2, .int .u32 p2, .int .i64 a2, .int .i64 b2], .bool is]) e w') := hd HRN0
          clear HRN0 hh hrd
          go_wp2_with fail
          refine HRN.out.mono ?_
          rintro e w5 ⟨rfl, hk5⟩
          have A5 := hd (HA.out.keep hk5)
          have L5 := hd (HLB.out.keep hk5)
          have B5 := hd (below_below HB.out hk5)
          clear hk5 d0 d1 HRN hnl
          have e24 : ∀ w, (Op.equalIn 10000 32 (.agg #[.int .i64 x, .int .u32 p]) (.agg #[.int .i64 x, .int .u32 p])).run Tryz.prog w = .ok true w := fun w => by rw [eq24]; simp
          cases is
          all_goals
            go_wp2_with fail
            have K6 := below1 w5 (Obj.cells #[Value.string s2, Value.int IntKind.i64 x2, Value.int IntKind.u32 p2, Value.int IntKind.i64 a2, Value.int IntKind.i64 b2] 34)
            generalize w5.alloc (Obj.cells #[Value.string s2, Value.int IntKind.i64 x2, Value.int IntKind.u32 p2, Value.int IntKind.i64 a2, Value.int IntKind.i64 b2] 34) = w6 at *
            have HB6 := hd (below_below B5.out K6)
            have D0 := (A5.out.keep K6).cell 0
            have D1 := (A5.out.keep K6).cell 1
            have D2 := (L5.out.keep K6).cell 0
            have D3 := (L5.out.keep K6).cell 1
            simp at D0 D1 D2 D3
            have HLS : Hid (∀ s : Ltr w6, Calls Tryz.prog 18 #[.agg #[.slice u0 n1 cu, .slice v0 n2 cv], .string n] s.wd fun e w' => VEnd s.wd (.agg #[.int .i64 x, .int .u32 p]) e w') := hd fun s => by
              have h := label_pol n (HR.out.keep (below_below HB6.out s.bel)) (HQ.out.keep (below_below HB6.out s.bel))
              rw [HLL.out] at h
              exact h
            clear K6
            have d0 := Ltr.cell D0
            have d1 := Ltr.cell D1
            have d2 := Ltr.cell D2
            have d3 := Ltr.cell D3
            clear D0 D1 D2 D3
            have hany := Ltr.any w6
            refine wp_region_later (by kernel_rfl) (by kernel_rfl) ?_
            repeat (go_big_quiet_step (first | (go_at_call 18; exact later_of (HLS.out _)) | fail))
            refine wpQuiet_nil ?_
            rintro _ ⟨s, rfl⟩
            have HS := hd (below_below HB6.out s.bel)
            clear hany d0 d1 d2 d3 e24
            generalize s.wd = w7 at *
            go_wp2_with fail
            go_ret
            exact VEnd.mk HS.out

end Go.Proofs.YtcigbfjmnhogiaaGreatDoor
