/- BatchWrites: the law's walk. -/
import Derived.Test.YteifaipbckhoiaaRq
import Derived.Test.YteifaipbckhoiaaVs
namespace Go.Proofs.Yteifaipbckhoiaa
open Go.RowKit
set_option linter.unusedVariables false

theorem wf_same {ps qs : List SpanV} (h : spd ps = spd qs) (hw : ∀ q ∈ qs, WfS q.1) : ∀ p ∈ ps, WfS p.1 := fun p hp => by
  have h1 : p.1 ∈ spd ps := List.mem_map.2 ⟨p, hp, rfl⟩
  rw [h] at h1
  obtain ⟨q, hq, e⟩ := List.mem_map.1 h1
  rw [← e]
  exact hw q hq

set_option maxRecDepth 100000 in
set_option maxHeartbeats 16000000 in
theorem writes_walk {w : World} {c c' : Value} {qs rs : List SpanV} {ag sq ag2 sq2 : Int} (h : BatIn w ag sq c qs) (h2 : BatIn w ag2 sq2 c' rs) :
    Calls Try.prog 3 #[.agg #[.int .i64 ag, .int .i64 sq, c], .agg #[.int .i64 ag2, .int .i64 sq2, c']] w fun e w' => VEnd w (.bool true) e w' := by
  obtain ⟨xa, ca, rfl⟩ := h.sps.el.form
  obtain ⟨xb, cb, rfl⟩ := h2.sps.el.form
  obtain ⟨n, hn⟩ : ∃ n, qs.length = n := ⟨_, rfl⟩
  obtain ⟨m, hm⟩ : ∃ n, rs.length = n := ⟨_, rfl⟩
  have HW := hd h.wf
  have HRM := hd h.room
  have HP := hd h.sps
  have HQ := hd h2.sps
  rw [hn] at HP ⊢
  rw [hm] at HQ ⊢
  have HN := hd hn
  clear hn hm h h2
  have k2 := below1 (w.alloc (Obj.cells #[Value.int IntKind.i64 ag, Value.int IntKind.i64 sq, Value.slice xa n ca] 24)) (Obj.cells #[Value.int IntKind.i64 ag2, Value.int IntKind.i64 sq2, Value.slice xb m cb] 24)
  have hz : (w.alloc (Obj.cells #[Value.int IntKind.i64 ag, Value.int IntKind.i64 sq, Value.slice xa n ca] 24)).heap.size = w.heap.size + 1 := by simp
  have D := Bk.new (w.alloc (Obj.cells #[Value.int IntKind.i64 ag, Value.int IntKind.i64 sq, Value.slice xa n ca] 24)) 24 #[Value.int IntKind.i64 ag2, Value.int IntKind.i64 sq2, Value.slice xb m cb]
  rw [hz] at D
  have BB := below2 w (Obj.cells #[Value.int IntKind.i64 ag, Value.int IntKind.i64 sq, Value.slice xa n ca] 24) (Obj.cells #[Value.int IntKind.i64 ag2, Value.int IntKind.i64 sq2, Value.slice xb m cb] 24)
  have A0 := hd ((Bk.new w 24 #[Value.int IntKind.i64 ag, Value.int IntKind.i64 sq, Value.slice xa n ca]).keep k2)
  have D0 := hd (D)
  have P0 := hd (HP.out.keep BB)
  have Q0 := hd (HQ.out.keep BB)
  have B0 := hd (BB)
  clear k2 hz D BB HP HQ
  have a0 := A0.out.cell 0
  have a1 := A0.out.cell 1
  have a2 := A0.out.cell 2
  simp at a0 a1 a2
  go_enter Try.func3, Try.ntmps3
  go_wp2_with fail
  obtain ⟨g, hg⟩ : ∃ g, w.heap.size = g := ⟨_, rfl⟩
  rw [hg] at A0 D0 ⊢
  clear hg
  generalize (w.alloc (Obj.cells #[Value.int IntKind.i64 ag, Value.int IntKind.i64 sq, Value.slice xa n ca] 24)).alloc (Obj.cells #[Value.int IntKind.i64 ag2, Value.int IntKind.i64 sq2, Value.slice xb m cb] 24) = w1 at *
  refine (copyB_is ag sq P0.out HRM.out).mono ?_
  rintro e w2 ⟨c2, ps, rfl, hps, ho, hk⟩
  obtain ⟨xi, ci, rfl⟩ := ho.form
  have hln : ps.length = n := by rw [← spd_len ps, hps, spd_len, HN.out]
  rw [hln] at ho ⊢
  have HPS := hd hps
  have HWI : Hid (∀ q ∈ ps, WfS q.1) := hd (wf_same hps HW.out)
  have A1 := hd (A0.out.keep hk)
  have D1 := hd (D0.out.keep hk)
  have P1 := hd (P0.out.keep hk)
  have Q1 := hd (Q0.out.keep hk)
  have B1 := hd (below_below B0.out hk)
  clear A0 D0 P0 Q0 B0 a0 a1 a2
  have R1 := hd (ho.sps)
  clear hk ho hps hln
  have NB := below1 w2 (Obj.cells #[Value.int IntKind.i64 ag, Value.int IntKind.i64 sq, Value.slice xi n ci] 24)
  have A2 := hd (A1.out.keep NB)
  have D2 := hd (D1.out.keep NB)
  have P2 := hd (P1.out.keep NB)
  have Q2 := hd (Q1.out.keep NB)
  have B2 := hd (below_below B1.out NB)
  have R2 := hd (R1.out.keep NB)
  clear A1 D1 P1 Q1 B1 R1 
  have C2 := hd (Bk.new w2 24 #[Value.int IntKind.i64 ag, Value.int IntKind.i64 sq, Value.slice xi n ci])
  clear NB
  have c0 := C2.out.cell 0
  have c1 := C2.out.cell 1
  have c2 := C2.out.cell 2
  simp at c0 c1 c2
  go_wp2_with fail
  generalize w2.alloc (Obj.cells #[Value.int IntKind.i64 ag, Value.int IntKind.i64 sq, Value.slice xi n ci] 24) = w3 at *
  generalize w2.heap.size = gi at *
  obtain ⟨bb, hbb⟩ : ∃ b : BatchD, (⟨ag, sq, spd qs⟩ : BatchD) = b := ⟨_, rfl⟩
  have HBB := hd hbb
  clear hbb
  obtain ⟨L, hL⟩ : ∃ L, (if okB bb then batB bb else []) = L := ⟨_, rfl⟩
  obtain ⟨z, hz⟩ : ∃ z : Int, (if okB bb then (0 : Int) else 90) = z := ⟨_, rfl⟩
  have HLZ := hd (And.intro hL hz)
  clear hL hz
  have HBT := bytesB_any (ag := ag) (sq := sq) R2.out HWI.out
  rw [HPS.out, HBB.out, HLZ.out.1, HLZ.out.2] at HBT
  refine HBT.mono ?_
  rintro e w4 ⟨a4, n4, p4, rfl, hn4, ho4, hk⟩
  have A3 := hd (A2.out.keep hk)
  have D3 := hd (D2.out.keep hk)
  have P3 := hd (P2.out.keep hk)
  have Q3 := hd (Q2.out.keep hk)
  have B3 := hd (below_below B2.out hk)
  have R3 := hd (R2.out.keep hk)
  have C3 := hd (C2.out.keep hk)
  clear A2 D2 P2 Q2 B2 R2 C2 
  have X3 := hd (ho4.bs)
  clear hk ho4 hn4 HBT c0 c1 c2
  have a0 := A3.out.cell 0
  have a1 := A3.out.cell 1
  have a2 := A3.out.cell 2
  simp at a0 a1 a2
  go_wp2_with fail
  have HBT := rbytesB_any (ag := ag) (sq := sq) P3.out HW.out
  rw [HBB.out, HLZ.out.1, HLZ.out.2] at HBT
  refine HBT.mono ?_
  rintro e w5 ⟨a5, n5, p5, rfl, hn5, ho5, hk⟩
  have A4 := hd (A3.out.keep hk)
  have D4 := hd (D3.out.keep hk)
  have P4 := hd (P3.out.keep hk)
  have Q4 := hd (Q3.out.keep hk)
  have B4 := hd (below_below B3.out hk)
  have R4 := hd (R3.out.keep hk)
  have C4 := hd (C3.out.keep hk)
  have X4 := hd (X3.out.keepB hk)
  clear A3 D3 P3 Q3 B3 R3 C3 X3 
  have Y4 := hd (ho5.bs)
  clear hk ho5 hn5 HBT a0 a1 a2
  go_wp2_with fail
  go_loopw [10] (fun i wr => ∃ k : Nat, k ≤ n ∧ i = .int .i64 (k : Int) ∧ Below w5.heap.size w5 wr) (fun i _ => n - (intOf i).toNat)
  case atStart => exact ⟨0, Nat.zero_le _, rfl, Below.refl _ _⟩
  case round =>
    obtain ⟨k, hkn, rfl, hb⟩ := hrel
    have HB := hd hb
    have A5 := hd (A4.out.keep hb)
    have D5 := hd (D4.out.keep hb)
    have P5 := hd (P4.out.keep hb)
    have Q5 := hd (Q4.out.keep hb)
    have B5 := hd (below_below B4.out hb)
    have R5 := hd (R4.out.keep hb)
    have C5 := hd (C4.out.keep hb)
    have X5 := hd (X4.out.keepB hb)
    have Y5 := hd (Y4.out.keepB hb)
    clear A4 D4 P4 Q4 B4 R4 C4 X4 Y4 hb
    have a0 := A5.out.cell 0
    have a1 := A5.out.cell 1
    have a2 := A5.out.cell 2
    simp at a0 a1 a2
    by_cases hlt : k < n
    · have hlz : (k : Int) < (n : Int) := by omega
      have hxk : k < qs.length := by rw [HN.out]; exact hlt
      obtain ⟨⟨⟨tr, sid, pa, st, ln, sv, op, sb, ats⟩, v⟩, he1⟩ : ∃ r : SpanV, qs[k]'(by omega) = r := ⟨_, rfl⟩
      obtain ⟨gx, off, hx, hc, h47', d0, d1, d2, d3, d4, d5, d6, d7, d8, hel⟩ := P5.out.atS (Below.refl _ _) HN.out hlt he1
      subst hx
      obtain ⟨vx, vc, hv⟩ := hel.form
      obtain ⟨m8, hm8⟩ : ∃ m, ats.length = m := ⟨_, rfl⟩
      rw [hm8] at hv
      subst hv
      obtain ⟨cv, hcv⟩ : ∃ q : Int, (if okS ⟨tr, sid, pa, st, ln, sv, op, sb, ats⟩ then (0 : Int) else 90) = q := ⟨_, rfl⟩
      have HK1 : Hid (∀ W, Below wr.heap.size wr W → Calls Try.prog 12 #[.agg #[Value.int IntKind.i64 tr, Value.int IntKind.i64 sid, Value.int IntKind.i64 pa, Value.string sv, Value.string op, Value.int IntKind.i64 st, Value.int IntKind.i64 ln, Value.string sb, Value.slice vx m8 vc]] W fun e w' => VEnd W (.int .i64 cv) e w') := hd (fun W hW => by
        have h := checkS_cells tr sid pa st ln sv op sb ats _ W (hel.keep hW) (by have := HW.out _ (List.getElem_mem hxk); rw [he1] at this; exact this)
        rw [hcv] at h
        exact h)
      have HK2 : Hid (∀ W, Below wr.heap.size wr W → Calls Try.prog 13 #[.agg #[Value.int IntKind.i64 tr, Value.int IntKind.i64 sid, Value.int IntKind.i64 pa, Value.string sv, Value.string op, Value.int IntKind.i64 st, Value.int IntKind.i64 ln, Value.string sb, Value.slice vx m8 vc]] W fun e w' => VEnd W (.int .i64 cv) e w') := hd (fun W hW => by
        have h := rcheckS_cells tr sid pa st ln sv op sb ats _ W (hel.keep hW)
        rw [hcv] at h
        exact h)
      have D0 := hd d0
      have D1 := hd d1
      have D2 := hd d2
      have D3 := hd d3
      have D4 := hd d4
      have D5 := hd d5
      have D6 := hd d6
      have D7 := hd d7
      have D8 := hd d8
      clear he1 hel hcv hm8 hxk d0 d1 d2 d3 d4 d5 d6 d7 d8
      go_wp2_with fail
      clear a0 a1 a2
      refine wp_region_each 13 (fun W W' => Below W.heap.size W W') (fun i v W => match i with | 0 => v = Value.pointer (some ⟨g, 2, none⟩) | 1 => v = Value.slice (some ⟨gx, off, none⟩) n ca | 2 => v = Value.int IntKind.i64 (k : Int) | 3 => v = Value.pointer (some ⟨gx, off + k * 9, none⟩) | 4 => v = Value.agg #[Value.int IntKind.i64 tr, Value.int IntKind.i64 sid, Value.int IntKind.i64 pa, Value.string sv, Value.string op, Value.int IntKind.i64 st, Value.int IntKind.i64 ln, Value.string sb, Value.slice vx m8 vc] | 5 => v = Value.int IntKind.i64 cv | 6 => v = Value.pointer (some ⟨g, 2, none⟩) | 7 => v = Value.slice (some ⟨gx, off, none⟩) n ca | 8 => v = Value.int IntKind.i64 (k : Int) | 9 => v = Value.pointer (some ⟨gx, off + k * 9, none⟩) | 10 => v = Value.agg #[Value.int IntKind.i64 tr, Value.int IntKind.i64 sid, Value.int IntKind.i64 pa, Value.string sv, Value.string op, Value.int IntKind.i64 st, Value.int IntKind.i64 ln, Value.string sb, Value.slice vx m8 vc] | 11 => v = Value.int IntKind.i64 cv | 12 => v = Value.bool false | _ => True) (fun vs W => Below wr.heap.size wr W) (by kernel_rfl) (by kernel_rfl) (fun j v W W' hE h => by
          match j with
          | 0 => exact h
          | 1 => exact h
          | 2 => exact h
          | 3 => exact h
          | 4 => exact h
          | 5 => exact h
          | 6 => exact h
          | 7 => exact h
          | 8 => exact h
          | 9 => exact h
          | 10 => exact h
          | 11 => exact h
          | 12 => exact h
          | _ + 13 => trivial) (by exact (Below.refl _ _).drew) ?_ ?_
      · simp only [List.take_succ_cons, List.take_zero]
        refine Each.cons (fun vs W hl => ?_) ?_
        · apply with13 hl
          clear hl vs
          intro v0 v1 v2 v3 v4 v5 v6 v7 v8 v9 v10 v11 v12 hg hnew hd K hK
          clear hd
          clear hnew
          rw [if_pos (by kernel_rfl)]
          simp only [puts, Act.put, List.setIfInBounds_toArray, List.set_cons_zero, List.set_cons_succ] at hK ⊢
          go_simp
          exact hK _ _ (Below.refl _ _) rfl hg
        refine Each.cons (fun vs W hl => ?_) ?_
        · apply with13 hl
          clear hl vs
          intro v0 v1 v2 v3 v4 v5 v6 v7 v8 v9 v10 v11 v12 hg hnew hd K hK
          have d0 : v0 = Value.pointer (some ⟨g, 2, none⟩) := hd 0 v0 (by kernel_rfl) rfl
          subst d0
          clear hd
          clear hnew
          rw [if_pos (by kernel_rfl)]
          simp only [puts, Act.put, List.setIfInBounds_toArray, List.set_cons_zero, List.set_cons_succ] at hK ⊢
          have c := A5.out.keep hg
          have c0 := c.cell 0
          have c1 := c.cell 1
          have c2 := c.cell 2
          simp at c0 c1 c2
          go_simp
          exact hK _ _ (Below.refl _ _) rfl hg
        refine Each.cons (fun vs W hl => ?_) ?_
        · apply with13 hl
          clear hl vs
          intro v0 v1 v2 v3 v4 v5 v6 v7 v8 v9 v10 v11 v12 hg hnew hd K hK
          clear hd
          clear hnew
          rw [if_pos (by kernel_rfl)]
          simp only [puts, Act.put, List.setIfInBounds_toArray, List.set_cons_zero, List.set_cons_succ] at hK ⊢
          go_simp
          exact hK _ _ (Below.refl _ _) rfl hg
        refine Each.cons (fun vs W hl => ?_) ?_
        · apply with13 hl
          clear hl vs
          intro v0 v1 v2 v3 v4 v5 v6 v7 v8 v9 v10 v11 v12 hg hnew hd K hK
          have d1 : v1 = Value.slice (some ⟨gx, off, none⟩) n ca := hd 1 v1 (by kernel_rfl) rfl
          subst d1
          have d2 : v2 = Value.int IntKind.i64 (k : Int) := hd 2 v2 (by kernel_rfl) rfl
          subst d2
          clear hd
          clear hnew
          rw [if_pos (by kernel_rfl)]
          simp only [puts, Act.put, List.setIfInBounds_toArray, List.set_cons_zero, List.set_cons_succ] at hK ⊢
          go_simp
          exact hK _ _ (Below.refl _ _) rfl hg
        refine Each.cons (fun vs W hl => ?_) ?_
        · apply with13 hl
          clear hl vs
          intro v0 v1 v2 v3 v4 v5 v6 v7 v8 v9 v10 v11 v12 hg hnew hd K hK
          have d3 : v3 = Value.pointer (some ⟨gx, off + k * 9, none⟩) := hd 3 v3 (by kernel_rfl) rfl
          subst d3
          clear hd
          clear hnew
          rw [if_pos (by kernel_rfl)]
          simp only [puts, Act.put, List.setIfInBounds_toArray, List.set_cons_zero, List.set_cons_succ] at hK ⊢
          have e0 := (below_cell hg (World.block_lt_of_cell? wr _ D0.out)).trans D0.out
          have e1 := (below_cell hg (World.block_lt_of_cell? wr _ D1.out)).trans D1.out
          have e2 := (below_cell hg (World.block_lt_of_cell? wr _ D2.out)).trans D2.out
          have e3 := (below_cell hg (World.block_lt_of_cell? wr _ D3.out)).trans D3.out
          have e4 := (below_cell hg (World.block_lt_of_cell? wr _ D4.out)).trans D4.out
          have e5 := (below_cell hg (World.block_lt_of_cell? wr _ D5.out)).trans D5.out
          have e6 := (below_cell hg (World.block_lt_of_cell? wr _ D6.out)).trans D6.out
          have e7 := (below_cell hg (World.block_lt_of_cell? wr _ D7.out)).trans D7.out
          have e8 := (below_cell hg (World.block_lt_of_cell? wr _ D8.out)).trans D8.out
          go_simp
          exact hK _ _ (Below.refl _ _) rfl hg
        refine Each.cons (fun vs W hl => ?_) ?_
        · apply with13 hl
          clear hl vs
          intro v0 v1 v2 v3 v4 v5 v6 v7 v8 v9 v10 v11 v12 hg hnew hd K hK
          have d4 : v4 = Value.agg #[Value.int IntKind.i64 tr, Value.int IntKind.i64 sid, Value.int IntKind.i64 pa, Value.string sv, Value.string op, Value.int IntKind.i64 st, Value.int IntKind.i64 ln, Value.string sb, Value.slice vx m8 vc] := hd 4 v4 (by kernel_rfl) rfl
          subst d4
          clear hd
          clear hnew
          rw [if_pos (by kernel_rfl)]
          simp only [puts, Act.put, List.setIfInBounds_toArray, List.set_cons_zero, List.set_cons_succ] at hK ⊢
          go_simp
          refine (HK1.out _ hg).mono ?_
          rintro e w' ⟨rfl, hk⟩
          exact hK _ _ hk rfl (below_below hg hk)
        refine Each.cons (fun vs W hl => ?_) ?_
        · apply with13 hl
          clear hl vs
          intro v0 v1 v2 v3 v4 v5 v6 v7 v8 v9 v10 v11 v12 hg hnew hd K hK
          clear hd
          clear hnew
          rw [if_pos (by kernel_rfl)]
          simp only [puts, Act.put, List.setIfInBounds_toArray, List.set_cons_zero, List.set_cons_succ] at hK ⊢
          go_simp
          exact hK _ _ (Below.refl _ _) rfl hg
        refine Each.cons (fun vs W hl => ?_) ?_
        · apply with13 hl
          clear hl vs
          intro v0 v1 v2 v3 v4 v5 v6 v7 v8 v9 v10 v11 v12 hg hnew hd K hK
          have d6 : v6 = Value.pointer (some ⟨g, 2, none⟩) := hd 6 v6 (by kernel_rfl) rfl
          subst d6
          clear hd
          clear hnew
          rw [if_pos (by kernel_rfl)]
          simp only [puts, Act.put, List.setIfInBounds_toArray, List.set_cons_zero, List.set_cons_succ] at hK ⊢
          have c := A5.out.keep hg
          have c0 := c.cell 0
          have c1 := c.cell 1
          have c2 := c.cell 2
          simp at c0 c1 c2
          go_simp
          exact hK _ _ (Below.refl _ _) rfl hg
        refine Each.cons (fun vs W hl => ?_) ?_
        · apply with13 hl
          clear hl vs
          intro v0 v1 v2 v3 v4 v5 v6 v7 v8 v9 v10 v11 v12 hg hnew hd K hK
          clear hd
          clear hnew
          rw [if_pos (by kernel_rfl)]
          simp only [puts, Act.put, List.setIfInBounds_toArray, List.set_cons_zero, List.set_cons_succ] at hK ⊢
          go_simp
          exact hK _ _ (Below.refl _ _) rfl hg
        refine Each.cons (fun vs W hl => ?_) ?_
        · apply with13 hl
          clear hl vs
          intro v0 v1 v2 v3 v4 v5 v6 v7 v8 v9 v10 v11 v12 hg hnew hd K hK
          have d7 : v7 = Value.slice (some ⟨gx, off, none⟩) n ca := hd 7 v7 (by kernel_rfl) rfl
          subst d7
          have d8 : v8 = Value.int IntKind.i64 (k : Int) := hd 8 v8 (by kernel_rfl) rfl
          subst d8
          clear hd
          clear hnew
          rw [if_pos (by kernel_rfl)]
          simp only [puts, Act.put, List.setIfInBounds_toArray, List.set_cons_zero, List.set_cons_succ] at hK ⊢
          go_simp
          exact hK _ _ (Below.refl _ _) rfl hg
        refine Each.cons (fun vs W hl => ?_) ?_
        · apply with13 hl
          clear hl vs
          intro v0 v1 v2 v3 v4 v5 v6 v7 v8 v9 v10 v11 v12 hg hnew hd K hK
          have d9 : v9 = Value.pointer (some ⟨gx, off + k * 9, none⟩) := hd 9 v9 (by kernel_rfl) rfl
          subst d9
          clear hd
          clear hnew
          rw [if_pos (by kernel_rfl)]
          simp only [puts, Act.put, List.setIfInBounds_toArray, List.set_cons_zero, List.set_cons_succ] at hK ⊢
          have e0 := (below_cell hg (World.block_lt_of_cell? wr _ D0.out)).trans D0.out
          have e1 := (below_cell hg (World.block_lt_of_cell? wr _ D1.out)).trans D1.out
          have e2 := (below_cell hg (World.block_lt_of_cell? wr _ D2.out)).trans D2.out
          have e3 := (below_cell hg (World.block_lt_of_cell? wr _ D3.out)).trans D3.out
          have e4 := (below_cell hg (World.block_lt_of_cell? wr _ D4.out)).trans D4.out
          have e5 := (below_cell hg (World.block_lt_of_cell? wr _ D5.out)).trans D5.out
          have e6 := (below_cell hg (World.block_lt_of_cell? wr _ D6.out)).trans D6.out
          have e7 := (below_cell hg (World.block_lt_of_cell? wr _ D7.out)).trans D7.out
          have e8 := (below_cell hg (World.block_lt_of_cell? wr _ D8.out)).trans D8.out
          go_simp
          exact hK _ _ (Below.refl _ _) rfl hg
        refine Each.cons (fun vs W hl => ?_) ?_
        · apply with13 hl
          clear hl vs
          intro v0 v1 v2 v3 v4 v5 v6 v7 v8 v9 v10 v11 v12 hg hnew hd K hK
          have d10 : v10 = Value.agg #[Value.int IntKind.i64 tr, Value.int IntKind.i64 sid, Value.int IntKind.i64 pa, Value.string sv, Value.string op, Value.int IntKind.i64 st, Value.int IntKind.i64 ln, Value.string sb, Value.slice vx m8 vc] := hd 10 v10 (by kernel_rfl) rfl
          subst d10
          clear hd
          clear hnew
          rw [if_pos (by kernel_rfl)]
          simp only [puts, Act.put, List.setIfInBounds_toArray, List.set_cons_zero, List.set_cons_succ] at hK ⊢
          go_simp
          refine (HK2.out _ hg).mono ?_
          rintro e w' ⟨rfl, hk⟩
          exact hK _ _ hk rfl (below_below hg hk)
        refine Each.cons (fun vs W hl => ?_) ?_
        · apply with13 hl
          clear hl vs
          intro v0 v1 v2 v3 v4 v5 v6 v7 v8 v9 v10 v11 v12 hg hnew hd K hK
          have d5 : v5 = Value.int IntKind.i64 cv := hd 5 v5 (by kernel_rfl) rfl
          subst d5
          have d11 : v11 = Value.int IntKind.i64 cv := hd 11 v11 (by kernel_rfl) rfl
          subst d11
          clear hd
          clear hnew
          rw [if_pos (by kernel_rfl)]
          simp only [puts, Act.put, List.setIfInBounds_toArray, List.set_cons_zero, List.set_cons_succ] at hK ⊢
          go_simp
          exact hK _ _ (Below.refl _ _) (by first | rfl | simp) hg
        exact Each.nil
      · intro vs W hl
        apply with13 hl
        clear hl vs
        intro v0 v1 v2 v3 v4 v5 v6 v7 v8 v9 v10 v11 v12 hg hall
        have d0 : v0 = Value.pointer (some ⟨g, 2, none⟩) := hall 0 v0 rfl
        subst d0
        have d1 : v1 = Value.slice (some ⟨gx, off, none⟩) n ca := hall 1 v1 rfl
        subst d1
        have d2 : v2 = Value.int IntKind.i64 (k : Int) := hall 2 v2 rfl
        subst d2
        have d3 : v3 = Value.pointer (some ⟨gx, off + k * 9, none⟩) := hall 3 v3 rfl
        subst d3
        have d4 : v4 = Value.agg #[Value.int IntKind.i64 tr, Value.int IntKind.i64 sid, Value.int IntKind.i64 pa, Value.string sv, Value.string op, Value.int IntKind.i64 st, Value.int IntKind.i64 ln, Value.string sb, Value.slice vx m8 vc] := hall 4 v4 rfl
        subst d4
        have d5 : v5 = Value.int IntKind.i64 cv := hall 5 v5 rfl
        subst d5
        have d6 : v6 = Value.pointer (some ⟨g, 2, none⟩) := hall 6 v6 rfl
        subst d6
        have d7 : v7 = Value.slice (some ⟨gx, off, none⟩) n ca := hall 7 v7 rfl
        subst d7
        have d8 : v8 = Value.int IntKind.i64 (k : Int) := hall 8 v8 rfl
        subst d8
        have d9 : v9 = Value.pointer (some ⟨gx, off + k * 9, none⟩) := hall 9 v9 rfl
        subst d9
        have d10 : v10 = Value.agg #[Value.int IntKind.i64 tr, Value.int IntKind.i64 sid, Value.int IntKind.i64 pa, Value.string sv, Value.string op, Value.int IntKind.i64 st, Value.int IntKind.i64 ln, Value.string sb, Value.slice vx m8 vc] := hall 10 v10 rfl
        subst d10
        have d11 : v11 = Value.int IntKind.i64 cv := hall 11 v11 rfl
        subst d11
        have d12 : v12 = Value.bool false := hall 12 v12 rfl
        subst d12
        clear hall
        simp only [puts, Act.put, List.setIfInBounds_toArray, List.set_cons_zero, List.set_cons_succ, List.take_succ_cons, List.take_zero, List.drop_succ_cons, List.drop_zero]
        have BR := hd (below_below HB.out hg)
        clear hg
        go_wp2_with fail
        go_roundw
        case rel => exact ⟨k + 1, by omega, by go_num, BR.out⟩
        case measure => simp [intOf]; omega
    · have hnl : ¬ (k : Int) < (n : Int) := by omega
      obtain ⟨sv, hsv⟩ : ∃ q, sameBt bb ⟨ag2, sq2, spd rs⟩ = q := ⟨_, rfl⟩
      have HSV := hd hsv
      clear hsv
      go_wp2_with fail
      clear a0 a1 a2
      have XB : Hid (Bs (fun b => w3.heap.size ≤ b) wr (Value.slice a4 n4 p4) L) := hd X5.out
      have YB : Hid (Bx wr.heap.size wr (Value.slice a5 n5 p5) L) := hd (Or.inl (Y5.out.weaken (A' := fun b => b < wr.heap.size) (fun b hb _ => hb)))
      refine wp_region_each 32 (fun W W' => Below W.heap.size W W') (fun i v W => match i with | 0 => v = Value.agg #[Value.int IntKind.i64 ag, Value.int IntKind.i64 sq, Value.slice xi n ci] | 1 => v = Value.int IntKind.i64 z | 2 => v = Value.agg #[Value.int IntKind.i64 ag, Value.int IntKind.i64 sq, Value.slice xa n ca] | 3 => v = Value.int IntKind.i64 z | 4 => v = Value.bool true | 5 => v = Value.bool true | 6 => v = Value.slice a4 n4 p4 | 7 => v = Value.slice a5 n5 p5 | 8 => v = Value.bool true | 9 => v = Value.bool true | 10 => v = Value.bool true | 11 => v = Value.int IntKind.i64 z | 12 => v = Value.int IntKind.i64 z | 13 => v = Value.bool true | 14 => v = Value.bool true | 15 => v = Value.bool true | 16 => v = Value.agg #[Value.int IntKind.i64 ag, Value.int IntKind.i64 sq, Value.slice xi n ci] | 17 => v = Value.agg #[Value.int IntKind.i64 ag2, Value.int IntKind.i64 sq2, Value.slice xb m cb] | 18 => v = Value.bool sv | 19 => v = Value.agg #[Value.int IntKind.i64 ag, Value.int IntKind.i64 sq, Value.slice xa n ca] | 20 => v = Value.agg #[Value.int IntKind.i64 ag2, Value.int IntKind.i64 sq2, Value.slice xb m cb] | 21 => v = Value.bool sv | 22 => v = Value.bool true | 23 => v = Value.bool true | 24 => v = Value.bool true | 25 => v = Value.agg #[Value.int IntKind.i64 ag, Value.int IntKind.i64 sq, Value.slice xi n ci] | 26 => v = Value.agg #[Value.int IntKind.i64 ag, Value.int IntKind.i64 sq, Value.slice xa n ca] | 27 => v = Value.bool true | 28 => v = Value.bool true | 29 => v = Value.bool true | 30 => v = Value.bool true | 31 => v = Value.bool true | _ => True) (fun vs W => Below wr.heap.size wr W) (by kernel_rfl) (by kernel_rfl) (fun j v W W' hE h => by
          match j with
          | 0 => exact h
          | 1 => exact h
          | 2 => exact h
          | 3 => exact h
          | 4 => exact h
          | 5 => exact h
          | 6 => exact h
          | 7 => exact h
          | 8 => exact h
          | 9 => exact h
          | 10 => exact h
          | 11 => exact h
          | 12 => exact h
          | 13 => exact h
          | 14 => exact h
          | 15 => exact h
          | 16 => exact h
          | 17 => exact h
          | 18 => exact h
          | 19 => exact h
          | 20 => exact h
          | 21 => exact h
          | 22 => exact h
          | 23 => exact h
          | 24 => exact h
          | 25 => exact h
          | 26 => exact h
          | 27 => exact h
          | 28 => exact h
          | 29 => exact h
          | 30 => exact h
          | 31 => exact h
          | _ + 32 => trivial) (by exact (Below.refl _ _).drew) ?_ ?_
      · simp only [List.take_succ_cons, List.take_zero]
        refine Each.cons (fun vs W hl => ?_) ?_
        · apply with32 hl
          clear hl vs
          intro v0 v1 v2 v3 v4 v5 v6 v7 v8 v9 v10 v11 v12 v13 v14 v15 v16 v17 v18 v19 v20 v21 v22 v23 v24 v25 v26 v27 v28 v29 v30 v31 hg hnew hd K hK
          clear hd
          clear hnew
          rw [if_pos (by kernel_rfl)]
          simp only [puts, Act.put, List.setIfInBounds_toArray, List.set_cons_zero, List.set_cons_succ] at hK ⊢
          have c := C5.out.keep hg
          have c0 := c.cell 0
          have c1 := c.cell 1
          have c2 := c.cell 2
          simp at c0 c1 c2
          go_simp
          exact hK _ _ (Below.refl _ _) rfl hg
        refine Each.cons (fun vs W hl => ?_) ?_
        · apply with32 hl
          clear hl vs
          intro v0 v1 v2 v3 v4 v5 v6 v7 v8 v9 v10 v11 v12 v13 v14 v15 v16 v17 v18 v19 v20 v21 v22 v23 v24 v25 v26 v27 v28 v29 v30 v31 hg hnew hd K hK
          have d0 : v0 = Value.agg #[Value.int IntKind.i64 ag, Value.int IntKind.i64 sq, Value.slice xi n ci] := hd 0 v0 (by kernel_rfl) rfl
          subst d0
          clear hd
          clear hnew
          rw [if_pos (by kernel_rfl)]
          simp only [puts, Act.put, List.setIfInBounds_toArray, List.set_cons_zero, List.set_cons_succ] at hK ⊢
          go_simp
          have hc := checkB_any (ag := ag) (sq := sq) (R5.out.keep hg) HWI.out
          rw [HPS.out, HBB.out, HLZ.out.2] at hc
          refine hc.mono ?_
          clear hc
          rintro e w' ⟨rfl, hk⟩
          exact hK _ _ hk rfl (below_below hg hk)
        refine Each.cons (fun vs W hl => ?_) ?_
        · apply with32 hl
          clear hl vs
          intro v0 v1 v2 v3 v4 v5 v6 v7 v8 v9 v10 v11 v12 v13 v14 v15 v16 v17 v18 v19 v20 v21 v22 v23 v24 v25 v26 v27 v28 v29 v30 v31 hg hnew hd K hK
          clear hd
          clear hnew
          rw [if_pos (by kernel_rfl)]
          simp only [puts, Act.put, List.setIfInBounds_toArray, List.set_cons_zero, List.set_cons_succ] at hK ⊢
          have c := A5.out.keep hg
          have c0 := c.cell 0
          have c1 := c.cell 1
          have c2 := c.cell 2
          simp at c0 c1 c2
          go_simp
          exact hK _ _ (Below.refl _ _) rfl hg
        refine Each.cons (fun vs W hl => ?_) ?_
        · apply with32 hl
          clear hl vs
          intro v0 v1 v2 v3 v4 v5 v6 v7 v8 v9 v10 v11 v12 v13 v14 v15 v16 v17 v18 v19 v20 v21 v22 v23 v24 v25 v26 v27 v28 v29 v30 v31 hg hnew hd K hK
          have d2 : v2 = Value.agg #[Value.int IntKind.i64 ag, Value.int IntKind.i64 sq, Value.slice xa n ca] := hd 2 v2 (by kernel_rfl) rfl
          subst d2
          clear hd
          clear hnew
          rw [if_pos (by kernel_rfl)]
          simp only [puts, Act.put, List.setIfInBounds_toArray, List.set_cons_zero, List.set_cons_succ] at hK ⊢
          go_simp
          have hc := rcheckB_any (ag := ag) (sq := sq) (P5.out.keep hg) HW.out
          rw [HBB.out, HLZ.out.2] at hc
          refine hc.mono ?_
          clear hc
          rintro e w' ⟨rfl, hk⟩
          exact hK _ _ hk rfl (below_below hg hk)
        refine Each.cons (fun vs W hl => ?_) ?_
        · apply with32 hl
          clear hl vs
          intro v0 v1 v2 v3 v4 v5 v6 v7 v8 v9 v10 v11 v12 v13 v14 v15 v16 v17 v18 v19 v20 v21 v22 v23 v24 v25 v26 v27 v28 v29 v30 v31 hg hnew hd K hK
          have d1 : v1 = Value.int IntKind.i64 z := hd 1 v1 (by kernel_rfl) rfl
          subst d1
          have d3 : v3 = Value.int IntKind.i64 z := hd 3 v3 (by kernel_rfl) rfl
          subst d3
          clear hd
          clear hnew
          rw [if_pos (by kernel_rfl)]
          simp only [puts, Act.put, List.setIfInBounds_toArray, List.set_cons_zero, List.set_cons_succ] at hK ⊢
          go_simp
          exact hK _ _ (Below.refl _ _) (by first | rfl | simp) hg
        refine Each.cons (fun vs W hl => ?_) ?_
        · apply with32 hl
          clear hl vs
          intro v0 v1 v2 v3 v4 v5 v6 v7 v8 v9 v10 v11 v12 v13 v14 v15 v16 v17 v18 v19 v20 v21 v22 v23 v24 v25 v26 v27 v28 v29 v30 v31 hg hnew hd K hK
          have d4 : v4 = Value.bool true := hd 4 v4 (by kernel_rfl) rfl
          subst d4
          clear hd
          clear hnew
          rw [if_pos (by kernel_rfl)]
          simp only [puts, Act.put, List.setIfInBounds_toArray, List.set_cons_zero, List.set_cons_succ] at hK ⊢
          go_simp
          exact hK _ _ (Below.refl _ _) rfl hg
        refine Each.cons (fun vs W hl => ?_) ?_
        · apply with32 hl
          clear hl vs
          intro v0 v1 v2 v3 v4 v5 v6 v7 v8 v9 v10 v11 v12 v13 v14 v15 v16 v17 v18 v19 v20 v21 v22 v23 v24 v25 v26 v27 v28 v29 v30 v31 hg hnew hd K hK
          have d5 : v5 = Value.bool true := hd 5 v5 (by kernel_rfl) rfl
          subst d5
          clear hd
          clear hnew
          rw [if_pos (by kernel_rfl)]
          simp only [puts, Act.put, List.setIfInBounds_toArray, List.set_cons_zero, List.set_cons_succ] at hK ⊢
          go_simp
          exact hK _ _ (Below.refl _ _) rfl hg
        refine Each.cons (fun vs W hl => ?_) ?_
        · apply with32 hl
          clear hl vs
          intro v0 v1 v2 v3 v4 v5 v6 v7 v8 v9 v10 v11 v12 v13 v14 v15 v16 v17 v18 v19 v20 v21 v22 v23 v24 v25 v26 v27 v28 v29 v30 v31 hg hnew hd K hK
          have d5 : v5 = Value.bool true := hd 5 v5 (by kernel_rfl) rfl
          subst d5
          clear hd
          clear hnew
          rw [if_pos (by kernel_rfl)]
          simp only [puts, Act.put, List.setIfInBounds_toArray, List.set_cons_zero, List.set_cons_succ] at hK ⊢
          go_simp
          exact hK _ _ (Below.refl _ _) rfl hg
        refine Each.cons (fun vs W hl => ?_) ?_
        · apply with32 hl
          clear hl vs
          intro v0 v1 v2 v3 v4 v5 v6 v7 v8 v9 v10 v11 v12 v13 v14 v15 v16 v17 v18 v19 v20 v21 v22 v23 v24 v25 v26 v27 v28 v29 v30 v31 hg hnew hd K hK
          have d5 : v5 = Value.bool true := hd 5 v5 (by kernel_rfl) rfl
          subst d5
          have d6 : v6 = Value.slice a4 n4 p4 := hd 6 v6 (by kernel_rfl) rfl
          subst d6
          have d7 : v7 = Value.slice a5 n5 p5 := hd 7 v7 (by kernel_rfl) rfl
          subst d7
          clear hd
          clear hnew
          rw [if_pos (by kernel_rfl)]
          simp only [puts, Act.put, List.setIfInBounds_toArray, List.set_cons_zero, List.set_cons_succ] at hK ⊢
          go_simp
          refine (eq_bx (XB.out.keepB hg) (YB.out.keep hg)).mono ?_
          rintro e w' ⟨rfl, m, rfl⟩
          rw [decide_eq_true rfl]
          exact hK _ _ (below_drewN (Below.refl W.heap.size W) m) rfl (below_below hg (below_drewN (Below.refl W.heap.size W) m))
        refine Each.cons (fun vs W hl => ?_) ?_
        · apply with32 hl
          clear hl vs
          intro v0 v1 v2 v3 v4 v5 v6 v7 v8 v9 v10 v11 v12 v13 v14 v15 v16 v17 v18 v19 v20 v21 v22 v23 v24 v25 v26 v27 v28 v29 v30 v31 hg hnew hd K hK
          have d5 : v5 = Value.bool true := hd 5 v5 (by kernel_rfl) rfl
          subst d5
          have d8 : v8 = Value.bool true := hd 8 v8 (by kernel_rfl) rfl
          subst d8
          clear hd
          clear hnew
          rw [if_pos (by kernel_rfl)]
          simp only [puts, Act.put, List.setIfInBounds_toArray, List.set_cons_zero, List.set_cons_succ] at hK ⊢
          go_simp
          exact hK _ _ (Below.refl _ _) rfl hg
        refine Each.cons (fun vs W hl => ?_) ?_
        · apply with32 hl
          clear hl vs
          intro v0 v1 v2 v3 v4 v5 v6 v7 v8 v9 v10 v11 v12 v13 v14 v15 v16 v17 v18 v19 v20 v21 v22 v23 v24 v25 v26 v27 v28 v29 v30 v31 hg hnew hd K hK
          have d9 : v9 = Value.bool true := hd 9 v9 (by kernel_rfl) rfl
          subst d9
          clear hd
          clear hnew
          rw [if_pos (by kernel_rfl)]
          simp only [puts, Act.put, List.setIfInBounds_toArray, List.set_cons_zero, List.set_cons_succ] at hK ⊢
          go_simp
          exact hK _ _ (Below.refl _ _) rfl hg
        refine Each.cons (fun vs W hl => ?_) ?_
        · apply with32 hl
          clear hl vs
          intro v0 v1 v2 v3 v4 v5 v6 v7 v8 v9 v10 v11 v12 v13 v14 v15 v16 v17 v18 v19 v20 v21 v22 v23 v24 v25 v26 v27 v28 v29 v30 v31 hg hnew hd K hK
          have d10 : v10 = Value.bool true := hd 10 v10 (by kernel_rfl) rfl
          subst d10
          clear hd
          clear hnew
          rw [if_pos (by kernel_rfl)]
          simp only [puts, Act.put, List.setIfInBounds_toArray, List.set_cons_zero, List.set_cons_succ] at hK ⊢
          go_simp
          exact hK _ _ (Below.refl _ _) rfl hg
        refine Each.cons (fun vs W hl => ?_) ?_
        · apply with32 hl
          clear hl vs
          intro v0 v1 v2 v3 v4 v5 v6 v7 v8 v9 v10 v11 v12 v13 v14 v15 v16 v17 v18 v19 v20 v21 v22 v23 v24 v25 v26 v27 v28 v29 v30 v31 hg hnew hd K hK
          have d10 : v10 = Value.bool true := hd 10 v10 (by kernel_rfl) rfl
          subst d10
          clear hd
          clear hnew
          rw [if_pos (by kernel_rfl)]
          simp only [puts, Act.put, List.setIfInBounds_toArray, List.set_cons_zero, List.set_cons_succ] at hK ⊢
          go_simp
          exact hK _ _ (Below.refl _ _) rfl hg
        refine Each.cons (fun vs W hl => ?_) ?_
        · apply with32 hl
          clear hl vs
          intro v0 v1 v2 v3 v4 v5 v6 v7 v8 v9 v10 v11 v12 v13 v14 v15 v16 v17 v18 v19 v20 v21 v22 v23 v24 v25 v26 v27 v28 v29 v30 v31 hg hnew hd K hK
          have d10 : v10 = Value.bool true := hd 10 v10 (by kernel_rfl) rfl
          subst d10
          have d11 : v11 = Value.int IntKind.i64 z := hd 11 v11 (by kernel_rfl) rfl
          subst d11
          have d12 : v12 = Value.int IntKind.i64 z := hd 12 v12 (by kernel_rfl) rfl
          subst d12
          clear hd
          clear hnew
          rw [if_pos (by kernel_rfl)]
          simp only [puts, Act.put, List.setIfInBounds_toArray, List.set_cons_zero, List.set_cons_succ] at hK ⊢
          go_simp
          exact hK _ _ (Below.refl _ _) (by first | rfl | simp) hg
        refine Each.cons (fun vs W hl => ?_) ?_
        · apply with32 hl
          clear hl vs
          intro v0 v1 v2 v3 v4 v5 v6 v7 v8 v9 v10 v11 v12 v13 v14 v15 v16 v17 v18 v19 v20 v21 v22 v23 v24 v25 v26 v27 v28 v29 v30 v31 hg hnew hd K hK
          have d10 : v10 = Value.bool true := hd 10 v10 (by kernel_rfl) rfl
          subst d10
          have d13 : v13 = Value.bool true := hd 13 v13 (by kernel_rfl) rfl
          subst d13
          clear hd
          clear hnew
          rw [if_pos (by kernel_rfl)]
          simp only [puts, Act.put, List.setIfInBounds_toArray, List.set_cons_zero, List.set_cons_succ] at hK ⊢
          go_simp
          exact hK _ _ (Below.refl _ _) rfl hg
        refine Each.cons (fun vs W hl => ?_) ?_
        · apply with32 hl
          clear hl vs
          intro v0 v1 v2 v3 v4 v5 v6 v7 v8 v9 v10 v11 v12 v13 v14 v15 v16 v17 v18 v19 v20 v21 v22 v23 v24 v25 v26 v27 v28 v29 v30 v31 hg hnew hd K hK
          have d14 : v14 = Value.bool true := hd 14 v14 (by kernel_rfl) rfl
          subst d14
          clear hd
          clear hnew
          rw [if_pos (by kernel_rfl)]
          simp only [puts, Act.put, List.setIfInBounds_toArray, List.set_cons_zero, List.set_cons_succ] at hK ⊢
          go_simp
          exact hK _ _ (Below.refl _ _) rfl hg
        refine Each.cons (fun vs W hl => ?_) ?_
        · apply with32 hl
          clear hl vs
          intro v0 v1 v2 v3 v4 v5 v6 v7 v8 v9 v10 v11 v12 v13 v14 v15 v16 v17 v18 v19 v20 v21 v22 v23 v24 v25 v26 v27 v28 v29 v30 v31 hg hnew hd K hK
          have d15 : v15 = Value.bool true := hd 15 v15 (by kernel_rfl) rfl
          subst d15
          clear hd
          clear hnew
          rw [if_pos (by kernel_rfl)]
          simp only [puts, Act.put, List.setIfInBounds_toArray, List.set_cons_zero, List.set_cons_succ] at hK ⊢
          have c := C5.out.keep hg
          have c0 := c.cell 0
          have c1 := c.cell 1
          have c2 := c.cell 2
          simp at c0 c1 c2
          go_simp
          exact hK _ _ (Below.refl _ _) rfl hg
        refine Each.cons (fun vs W hl => ?_) ?_
        · apply with32 hl
          clear hl vs
          intro v0 v1 v2 v3 v4 v5 v6 v7 v8 v9 v10 v11 v12 v13 v14 v15 v16 v17 v18 v19 v20 v21 v22 v23 v24 v25 v26 v27 v28 v29 v30 v31 hg hnew hd K hK
          have d15 : v15 = Value.bool true := hd 15 v15 (by kernel_rfl) rfl
          subst d15
          clear hd
          clear hnew
          rw [if_pos (by kernel_rfl)]
          simp only [puts, Act.put, List.setIfInBounds_toArray, List.set_cons_zero, List.set_cons_succ] at hK ⊢
          have c := D5.out.keep hg
          have c0 := c.cell 0
          have c1 := c.cell 1
          have c2 := c.cell 2
          simp at c0 c1 c2
          go_simp
          exact hK _ _ (Below.refl _ _) rfl hg
        refine Each.cons (fun vs W hl => ?_) ?_
        · apply with32 hl
          clear hl vs
          intro v0 v1 v2 v3 v4 v5 v6 v7 v8 v9 v10 v11 v12 v13 v14 v15 v16 v17 v18 v19 v20 v21 v22 v23 v24 v25 v26 v27 v28 v29 v30 v31 hg hnew hd K hK
          have d15 : v15 = Value.bool true := hd 15 v15 (by kernel_rfl) rfl
          subst d15
          have d16 : v16 = Value.agg #[Value.int IntKind.i64 ag, Value.int IntKind.i64 sq, Value.slice xi n ci] := hd 16 v16 (by kernel_rfl) rfl
          subst d16
          have d17 : v17 = Value.agg #[Value.int IntKind.i64 ag2, Value.int IntKind.i64 sq2, Value.slice xb m cb] := hd 17 v17 (by kernel_rfl) rfl
          subst d17
          clear hd
          clear hnew
          rw [if_pos (by kernel_rfl)]
          simp only [puts, Act.put, List.setIfInBounds_toArray, List.set_cons_zero, List.set_cons_succ] at hK ⊢
          go_simp
          have hc := sameB_any ag sq ag2 sq2 (R5.out.keep hg) (Q5.out.keep hg)
          rw [HPS.out, HBB.out, HSV.out] at hc
          refine hc.mono ?_
          clear hc
          rintro e w' ⟨rfl, hk⟩
          exact hK _ _ hk rfl (below_below hg hk)
        refine Each.cons (fun vs W hl => ?_) ?_
        · apply with32 hl
          clear hl vs
          intro v0 v1 v2 v3 v4 v5 v6 v7 v8 v9 v10 v11 v12 v13 v14 v15 v16 v17 v18 v19 v20 v21 v22 v23 v24 v25 v26 v27 v28 v29 v30 v31 hg hnew hd K hK
          have d15 : v15 = Value.bool true := hd 15 v15 (by kernel_rfl) rfl
          subst d15
          clear hd
          clear hnew
          rw [if_pos (by kernel_rfl)]
          simp only [puts, Act.put, List.setIfInBounds_toArray, List.set_cons_zero, List.set_cons_succ] at hK ⊢
          have c := A5.out.keep hg
          have c0 := c.cell 0
          have c1 := c.cell 1
          have c2 := c.cell 2
          simp at c0 c1 c2
          go_simp
          exact hK _ _ (Below.refl _ _) rfl hg
        refine Each.cons (fun vs W hl => ?_) ?_
        · apply with32 hl
          clear hl vs
          intro v0 v1 v2 v3 v4 v5 v6 v7 v8 v9 v10 v11 v12 v13 v14 v15 v16 v17 v18 v19 v20 v21 v22 v23 v24 v25 v26 v27 v28 v29 v30 v31 hg hnew hd K hK
          have d15 : v15 = Value.bool true := hd 15 v15 (by kernel_rfl) rfl
          subst d15
          clear hd
          clear hnew
          rw [if_pos (by kernel_rfl)]
          simp only [puts, Act.put, List.setIfInBounds_toArray, List.set_cons_zero, List.set_cons_succ] at hK ⊢
          have c := D5.out.keep hg
          have c0 := c.cell 0
          have c1 := c.cell 1
          have c2 := c.cell 2
          simp at c0 c1 c2
          go_simp
          exact hK _ _ (Below.refl _ _) rfl hg
        refine Each.cons (fun vs W hl => ?_) ?_
        · apply with32 hl
          clear hl vs
          intro v0 v1 v2 v3 v4 v5 v6 v7 v8 v9 v10 v11 v12 v13 v14 v15 v16 v17 v18 v19 v20 v21 v22 v23 v24 v25 v26 v27 v28 v29 v30 v31 hg hnew hd K hK
          have d15 : v15 = Value.bool true := hd 15 v15 (by kernel_rfl) rfl
          subst d15
          have d19 : v19 = Value.agg #[Value.int IntKind.i64 ag, Value.int IntKind.i64 sq, Value.slice xa n ca] := hd 19 v19 (by kernel_rfl) rfl
          subst d19
          have d20 : v20 = Value.agg #[Value.int IntKind.i64 ag2, Value.int IntKind.i64 sq2, Value.slice xb m cb] := hd 20 v20 (by kernel_rfl) rfl
          subst d20
          clear hd
          clear hnew
          rw [if_pos (by kernel_rfl)]
          simp only [puts, Act.put, List.setIfInBounds_toArray, List.set_cons_zero, List.set_cons_succ] at hK ⊢
          go_simp
          have hc := rsameB_any ag sq ag2 sq2 (P5.out.keep hg) (Q5.out.keep hg)
          rw [HBB.out, HSV.out] at hc
          refine hc.mono ?_
          clear hc
          rintro e w' ⟨rfl, hk⟩
          exact hK _ _ hk rfl (below_below hg hk)
        refine Each.cons (fun vs W hl => ?_) ?_
        · apply with32 hl
          clear hl vs
          intro v0 v1 v2 v3 v4 v5 v6 v7 v8 v9 v10 v11 v12 v13 v14 v15 v16 v17 v18 v19 v20 v21 v22 v23 v24 v25 v26 v27 v28 v29 v30 v31 hg hnew hd K hK
          have d15 : v15 = Value.bool true := hd 15 v15 (by kernel_rfl) rfl
          subst d15
          have d18 : v18 = Value.bool sv := hd 18 v18 (by kernel_rfl) rfl
          subst d18
          have d21 : v21 = Value.bool sv := hd 21 v21 (by kernel_rfl) rfl
          subst d21
          clear hd
          clear hnew
          rw [if_pos (by kernel_rfl)]
          simp only [puts, Act.put, List.setIfInBounds_toArray, List.set_cons_zero, List.set_cons_succ] at hK ⊢
          go_simp
          exact hK _ _ (Below.refl _ _) (by first | rfl | simp) hg
        refine Each.cons (fun vs W hl => ?_) ?_
        · apply with32 hl
          clear hl vs
          intro v0 v1 v2 v3 v4 v5 v6 v7 v8 v9 v10 v11 v12 v13 v14 v15 v16 v17 v18 v19 v20 v21 v22 v23 v24 v25 v26 v27 v28 v29 v30 v31 hg hnew hd K hK
          have d15 : v15 = Value.bool true := hd 15 v15 (by kernel_rfl) rfl
          subst d15
          have d22 : v22 = Value.bool true := hd 22 v22 (by kernel_rfl) rfl
          subst d22
          clear hd
          clear hnew
          rw [if_pos (by kernel_rfl)]
          simp only [puts, Act.put, List.setIfInBounds_toArray, List.set_cons_zero, List.set_cons_succ] at hK ⊢
          go_simp
          exact hK _ _ (Below.refl _ _) rfl hg
        refine Each.cons (fun vs W hl => ?_) ?_
        · apply with32 hl
          clear hl vs
          intro v0 v1 v2 v3 v4 v5 v6 v7 v8 v9 v10 v11 v12 v13 v14 v15 v16 v17 v18 v19 v20 v21 v22 v23 v24 v25 v26 v27 v28 v29 v30 v31 hg hnew hd K hK
          have d23 : v23 = Value.bool true := hd 23 v23 (by kernel_rfl) rfl
          subst d23
          clear hd
          clear hnew
          rw [if_pos (by kernel_rfl)]
          simp only [puts, Act.put, List.setIfInBounds_toArray, List.set_cons_zero, List.set_cons_succ] at hK ⊢
          go_simp
          exact hK _ _ (Below.refl _ _) rfl hg
        refine Each.cons (fun vs W hl => ?_) ?_
        · apply with32 hl
          clear hl vs
          intro v0 v1 v2 v3 v4 v5 v6 v7 v8 v9 v10 v11 v12 v13 v14 v15 v16 v17 v18 v19 v20 v21 v22 v23 v24 v25 v26 v27 v28 v29 v30 v31 hg hnew hd K hK
          have d24 : v24 = Value.bool true := hd 24 v24 (by kernel_rfl) rfl
          subst d24
          clear hd
          clear hnew
          rw [if_pos (by kernel_rfl)]
          simp only [puts, Act.put, List.setIfInBounds_toArray, List.set_cons_zero, List.set_cons_succ] at hK ⊢
          have c := C5.out.keep hg
          have c0 := c.cell 0
          have c1 := c.cell 1
          have c2 := c.cell 2
          simp at c0 c1 c2
          go_simp
          exact hK _ _ (Below.refl _ _) rfl hg
        refine Each.cons (fun vs W hl => ?_) ?_
        · apply with32 hl
          clear hl vs
          intro v0 v1 v2 v3 v4 v5 v6 v7 v8 v9 v10 v11 v12 v13 v14 v15 v16 v17 v18 v19 v20 v21 v22 v23 v24 v25 v26 v27 v28 v29 v30 v31 hg hnew hd K hK
          have d24 : v24 = Value.bool true := hd 24 v24 (by kernel_rfl) rfl
          subst d24
          clear hd
          clear hnew
          rw [if_pos (by kernel_rfl)]
          simp only [puts, Act.put, List.setIfInBounds_toArray, List.set_cons_zero, List.set_cons_succ] at hK ⊢
          have c := A5.out.keep hg
          have c0 := c.cell 0
          have c1 := c.cell 1
          have c2 := c.cell 2
          simp at c0 c1 c2
          go_simp
          exact hK _ _ (Below.refl _ _) rfl hg
        refine Each.cons (fun vs W hl => ?_) ?_
        · apply with32 hl
          clear hl vs
          intro v0 v1 v2 v3 v4 v5 v6 v7 v8 v9 v10 v11 v12 v13 v14 v15 v16 v17 v18 v19 v20 v21 v22 v23 v24 v25 v26 v27 v28 v29 v30 v31 hg hnew hd K hK
          have d24 : v24 = Value.bool true := hd 24 v24 (by kernel_rfl) rfl
          subst d24
          have d25 : v25 = Value.agg #[Value.int IntKind.i64 ag, Value.int IntKind.i64 sq, Value.slice xi n ci] := hd 25 v25 (by kernel_rfl) rfl
          subst d25
          have d26 : v26 = Value.agg #[Value.int IntKind.i64 ag, Value.int IntKind.i64 sq, Value.slice xa n ca] := hd 26 v26 (by kernel_rfl) rfl
          subst d26
          clear hd
          clear hnew
          rw [if_pos (by kernel_rfl)]
          simp only [puts, Act.put, List.setIfInBounds_toArray, List.set_cons_zero, List.set_cons_succ] at hK ⊢
          go_simp
          have hc := rsameB_any ag sq ag sq (R5.out.keep hg) (P5.out.keep hg)
          rw [HPS.out, sameBt_self] at hc
          refine hc.mono ?_
          clear hc
          rintro e w' ⟨rfl, hk⟩
          exact hK _ _ hk rfl (below_below hg hk)
        refine Each.cons (fun vs W hl => ?_) ?_
        · apply with32 hl
          clear hl vs
          intro v0 v1 v2 v3 v4 v5 v6 v7 v8 v9 v10 v11 v12 v13 v14 v15 v16 v17 v18 v19 v20 v21 v22 v23 v24 v25 v26 v27 v28 v29 v30 v31 hg hnew hd K hK
          have d24 : v24 = Value.bool true := hd 24 v24 (by kernel_rfl) rfl
          subst d24
          have d27 : v27 = Value.bool true := hd 27 v27 (by kernel_rfl) rfl
          subst d27
          clear hd
          clear hnew
          rw [if_pos (by kernel_rfl)]
          simp only [puts, Act.put, List.setIfInBounds_toArray, List.set_cons_zero, List.set_cons_succ] at hK ⊢
          go_simp
          exact hK _ _ (Below.refl _ _) rfl hg
        refine Each.cons (fun vs W hl => ?_) ?_
        · apply with32 hl
          clear hl vs
          intro v0 v1 v2 v3 v4 v5 v6 v7 v8 v9 v10 v11 v12 v13 v14 v15 v16 v17 v18 v19 v20 v21 v22 v23 v24 v25 v26 v27 v28 v29 v30 v31 hg hnew hd K hK
          have d28 : v28 = Value.bool true := hd 28 v28 (by kernel_rfl) rfl
          subst d28
          clear hd
          clear hnew
          rw [if_pos (by kernel_rfl)]
          simp only [puts, Act.put, List.setIfInBounds_toArray, List.set_cons_zero, List.set_cons_succ] at hK ⊢
          go_simp
          exact hK _ _ (Below.refl _ _) rfl hg
        refine Each.cons (fun vs W hl => ?_) ?_
        · apply with32 hl
          clear hl vs
          intro v0 v1 v2 v3 v4 v5 v6 v7 v8 v9 v10 v11 v12 v13 v14 v15 v16 v17 v18 v19 v20 v21 v22 v23 v24 v25 v26 v27 v28 v29 v30 v31 hg hnew hd K hK
          have d29 : v29 = Value.bool true := hd 29 v29 (by kernel_rfl) rfl
          subst d29
          clear hd
          clear hnew
          rw [if_pos (by kernel_rfl)]
          simp only [puts, Act.put, List.setIfInBounds_toArray, List.set_cons_zero, List.set_cons_succ] at hK ⊢
          go_simp
          refine (works_true W).mono ?_
          rintro e w' ⟨rfl, hk⟩
          exact hK _ _ hk rfl (below_below hg hk)
        refine Each.cons (fun vs W hl => ?_) ?_
        · apply with32 hl
          clear hl vs
          intro v0 v1 v2 v3 v4 v5 v6 v7 v8 v9 v10 v11 v12 v13 v14 v15 v16 v17 v18 v19 v20 v21 v22 v23 v24 v25 v26 v27 v28 v29 v30 v31 hg hnew hd K hK
          have d29 : v29 = Value.bool true := hd 29 v29 (by kernel_rfl) rfl
          subst d29
          have d30 : v30 = Value.bool true := hd 30 v30 (by kernel_rfl) rfl
          subst d30
          clear hd
          clear hnew
          rw [if_pos (by kernel_rfl)]
          simp only [puts, Act.put, List.setIfInBounds_toArray, List.set_cons_zero, List.set_cons_succ] at hK ⊢
          go_simp
          exact hK _ _ (Below.refl _ _) rfl hg
        exact Each.nil
      · intro vs W hl
        apply with32 hl
        clear hl vs
        intro v0 v1 v2 v3 v4 v5 v6 v7 v8 v9 v10 v11 v12 v13 v14 v15 v16 v17 v18 v19 v20 v21 v22 v23 v24 v25 v26 v27 v28 v29 v30 v31 hg hall
        have d0 : v0 = Value.agg #[Value.int IntKind.i64 ag, Value.int IntKind.i64 sq, Value.slice xi n ci] := hall 0 v0 rfl
        subst d0
        have d1 : v1 = Value.int IntKind.i64 z := hall 1 v1 rfl
        subst d1
        have d2 : v2 = Value.agg #[Value.int IntKind.i64 ag, Value.int IntKind.i64 sq, Value.slice xa n ca] := hall 2 v2 rfl
        subst d2
        have d3 : v3 = Value.int IntKind.i64 z := hall 3 v3 rfl
        subst d3
        have d4 : v4 = Value.bool true := hall 4 v4 rfl
        subst d4
        have d5 : v5 = Value.bool true := hall 5 v5 rfl
        subst d5
        have d6 : v6 = Value.slice a4 n4 p4 := hall 6 v6 rfl
        subst d6
        have d7 : v7 = Value.slice a5 n5 p5 := hall 7 v7 rfl
        subst d7
        have d8 : v8 = Value.bool true := hall 8 v8 rfl
        subst d8
        have d9 : v9 = Value.bool true := hall 9 v9 rfl
        subst d9
        have d10 : v10 = Value.bool true := hall 10 v10 rfl
        subst d10
        have d11 : v11 = Value.int IntKind.i64 z := hall 11 v11 rfl
        subst d11
        have d12 : v12 = Value.int IntKind.i64 z := hall 12 v12 rfl
        subst d12
        have d13 : v13 = Value.bool true := hall 13 v13 rfl
        subst d13
        have d14 : v14 = Value.bool true := hall 14 v14 rfl
        subst d14
        have d15 : v15 = Value.bool true := hall 15 v15 rfl
        subst d15
        have d16 : v16 = Value.agg #[Value.int IntKind.i64 ag, Value.int IntKind.i64 sq, Value.slice xi n ci] := hall 16 v16 rfl
        subst d16
        have d17 : v17 = Value.agg #[Value.int IntKind.i64 ag2, Value.int IntKind.i64 sq2, Value.slice xb m cb] := hall 17 v17 rfl
        subst d17
        have d18 : v18 = Value.bool sv := hall 18 v18 rfl
        subst d18
        have d19 : v19 = Value.agg #[Value.int IntKind.i64 ag, Value.int IntKind.i64 sq, Value.slice xa n ca] := hall 19 v19 rfl
        subst d19
        have d20 : v20 = Value.agg #[Value.int IntKind.i64 ag2, Value.int IntKind.i64 sq2, Value.slice xb m cb] := hall 20 v20 rfl
        subst d20
        have d21 : v21 = Value.bool sv := hall 21 v21 rfl
        subst d21
        have d22 : v22 = Value.bool true := hall 22 v22 rfl
        subst d22
        have d23 : v23 = Value.bool true := hall 23 v23 rfl
        subst d23
        have d24 : v24 = Value.bool true := hall 24 v24 rfl
        subst d24
        have d25 : v25 = Value.agg #[Value.int IntKind.i64 ag, Value.int IntKind.i64 sq, Value.slice xi n ci] := hall 25 v25 rfl
        subst d25
        have d26 : v26 = Value.agg #[Value.int IntKind.i64 ag, Value.int IntKind.i64 sq, Value.slice xa n ca] := hall 26 v26 rfl
        subst d26
        have d27 : v27 = Value.bool true := hall 27 v27 rfl
        subst d27
        have d28 : v28 = Value.bool true := hall 28 v28 rfl
        subst d28
        have d29 : v29 = Value.bool true := hall 29 v29 rfl
        subst d29
        have d30 : v30 = Value.bool true := hall 30 v30 rfl
        subst d30
        have d31 : v31 = Value.bool true := hall 31 v31 rfl
        subst d31
        clear hall
        simp only [puts, Act.put, List.setIfInBounds_toArray, List.set_cons_zero, List.set_cons_succ, List.take_succ_cons, List.take_zero, List.drop_succ_cons, List.drop_zero]
        have BE := hd (below_below B5.out hg)
        clear hg
        go_wp2_with fail
        go_ret
        exact VEnd.mk BE.out

end Go.Proofs.Yteifaipbckhoiaa
