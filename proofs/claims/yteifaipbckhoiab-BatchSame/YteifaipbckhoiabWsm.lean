/- BatchSame: the law's walk. -/
import Derived.Test.YteifaipbckhoiabRq
import Derived.Test.YteifaipbckhoiabOb
namespace Go.Proofs.Yteifaipbckhoiab
open Go.RowKit
set_option linter.unusedVariables false

theorem eqs_iff' (a b : ByteArray) : eqs a b = true ↔ a = b := by
  constructor
  · intro h
    by_cases e : a = b
    · exact e
    · rw [eqs_false e] at h
      cases h
  · rintro rfl
    exact eqs_self a
theorem sameS_iff (a b : SpanD) : sameS a b = true ↔ a = b := by
  obtain ⟨a1, a2, a3, a4, a5, a6, a7, a8, a9⟩ := a
  obtain ⟨b1, b2, b3, b4, b5, b6, b7, b8, b9⟩ := b
  unfold sameS
  simp only [Bool.and_eq_true, beq_iff_eq, eqs_iff', sameL_iff sameA_iff, SpanD.mk.injEq]
  constructor
  · rintro ⟨⟨⟨⟨⟨⟨⟨⟨h1, h2⟩, h3⟩, h4⟩, h5⟩, h6⟩, h7⟩, h8⟩, h9⟩
    exact ⟨h1, h2, h3, h6, h7, h4, h5, h8, h9⟩
  · rintro ⟨h1, h2, h3, h6, h7, h4, h5, h8, h9⟩
    exact ⟨⟨⟨⟨⟨⟨⟨⟨h1, h2⟩, h3⟩, h4⟩, h5⟩, h6⟩, h7⟩, h8⟩, h9⟩
theorem sameBt_iff (a b : BatchD) : sameBt a b = true ↔ a = b := by
  obtain ⟨a1, a2, a3⟩ := a
  obtain ⟨b1, b2, b3⟩ := b
  unfold sameBt
  simp only [Bool.and_eq_true, beq_iff_eq, sameL_iff sameS_iff, BatchD.mk.injEq]
  constructor
  · rintro ⟨⟨h1, h2⟩, h3⟩
    exact ⟨h1, h2, h3⟩
  · rintro ⟨h1, h2, h3⟩
    exact ⟨⟨h1, h2⟩, h3⟩
theorem sameBt_comm (a b : BatchD) : sameBt b a = sameBt a b := by
  rw [Bool.eq_iff_iff, sameBt_iff, sameBt_iff]
  exact eq_comm
theorem same_bytes {a b : BatchD} (ha : okB a = true) (hb : okB b = true) (wa : WfB a) (wb : WfB b) : sameBt a b = decide (batB a = batB b) := by
  rw [Bool.eq_iff_iff, sameBt_iff, decide_eq_true_eq]
  exact ⟨fun h => by rw [h], fun h => batB_inj ha hb wa wb h⟩

set_option maxRecDepth 100000 in
set_option maxHeartbeats 16000000 in
theorem same_walk {w : World} {c c' : Value} {qs rs : List SpanV} {ag sq ag2 sq2 : Int} (h : BatIn w ag sq c qs) (h2 : BatIn w ag2 sq2 c' rs) :
    Calls Try.prog 3 #[.agg #[.int .i64 ag, .int .i64 sq, c], .agg #[.int .i64 ag2, .int .i64 sq2, c']] w fun e w' => VEnd w (.bool true) e w' := by
  obtain ⟨xa, ca, rfl⟩ := h.sps.el.form
  obtain ⟨xb, cb, rfl⟩ := h2.sps.el.form
  obtain ⟨n, hn⟩ : ∃ n, qs.length = n := ⟨_, rfl⟩
  obtain ⟨m, hm⟩ : ∃ n, rs.length = n := ⟨_, rfl⟩
  have HWA := hd h.wf
  have HWB := hd h2.wf
  have HP := hd h.sps
  have HQ := hd h2.sps
  obtain ⟨ba, hba⟩ : ∃ b : BatchD, (⟨ag, sq, spd qs⟩ : BatchD) = b := ⟨_, rfl⟩
  obtain ⟨bb, hbb⟩ : ∃ b : BatchD, (⟨ag2, sq2, spd rs⟩ : BatchD) = b := ⟨_, rfl⟩
  have HBA := hd hba
  have HBB := hd hbb
  have HFA : Hid (WfB ba) := hd (by
    rw [← hba]
    intro s hs
    obtain ⟨q, hq, rfl⟩ := List.mem_map.1 hs
    exact h.wf q hq)
  have HFB : Hid (WfB bb) := hd (by
    rw [← hbb]
    intro s hs
    obtain ⟨q, hq, rfl⟩ := List.mem_map.1 hs
    exact h2.wf q hq)
  rw [hn] at HP ⊢
  rw [hm] at HQ ⊢
  clear hn hm h h2 hba hbb
  have k2 := below1 (w.alloc (Obj.cells #[Value.int IntKind.i64 ag, Value.int IntKind.i64 sq, Value.slice xa n ca] 24)) (Obj.cells #[Value.int IntKind.i64 ag2, Value.int IntKind.i64 sq2, Value.slice xb m cb] 24)
  have hz : (w.alloc (Obj.cells #[Value.int IntKind.i64 ag, Value.int IntKind.i64 sq, Value.slice xa n ca] 24)).heap.size = w.heap.size + 1 := by simp
  have D := Bk.new (w.alloc (Obj.cells #[Value.int IntKind.i64 ag, Value.int IntKind.i64 sq, Value.slice xa n ca] 24)) 24 #[Value.int IntKind.i64 ag2, Value.int IntKind.i64 sq2, Value.slice xb m cb]
  rw [hz] at D
  have BB := below2 w (Obj.cells #[Value.int IntKind.i64 ag, Value.int IntKind.i64 sq, Value.slice xa n ca] 24) (Obj.cells #[Value.int IntKind.i64 ag2, Value.int IntKind.i64 sq2, Value.slice xb m cb] 24)
  have A0 := hd ((Bk.new w 24 #[Value.int IntKind.i64 ag, Value.int IntKind.i64 sq, Value.slice xa n ca]).keep k2)
  have D0 := hd (D)
  have P0 := hd (HP.out.keep BB)
  have Q0 := hd (HQ.out.keep BB)
  have B0 := hd (BB)
  clear k2 hz D BB HP HQ
  go_enter Try.func3, Try.ntmps3
  go_wp2_with fail
  generalize (w.alloc (Obj.cells #[Value.int IntKind.i64 ag, Value.int IntKind.i64 sq, Value.slice xa n ca] 24)).alloc (Obj.cells #[Value.int IntKind.i64 ag2, Value.int IntKind.i64 sq2, Value.slice xb m cb] 24) = w1 at *
  obtain ⟨g, hg⟩ : ∃ g, w.heap.size = g := ⟨_, rfl⟩
  rw [hg] at A0 D0 ⊢
  clear hg
  refine (works_true w1).mono ?_
  rintro e w2 ⟨rfl, hk⟩
  have A1 := hd (A0.out.keep hk)
  have D1 := hd (D0.out.keep hk)
  have P1 := hd (P0.out.keep hk)
  have Q1 := hd (Q0.out.keep hk)
  have B1 := hd (below_below B0.out hk)
  clear A0 D0 P0 Q0 B0 hk
  have a0 := A1.out.cell 0
  have a1 := A1.out.cell 1
  have a2 := A1.out.cell 2
  simp at a0 a1 a2
  have d0 := D1.out.cell 0
  have d1 := D1.out.cell 1
  have d2 := D1.out.cell 2
  simp at d0 d1 d2
  obtain ⟨sv, hsv⟩ : ∃ q, sameBt ba bb = q := ⟨_, rfl⟩
  have HSV := hd hsv
  clear hsv
  go_wp2_with fail
  have hc := sameB_any ag sq ag2 sq2 P1.out Q1.out
  rw [HBA.out, HBB.out, HSV.out] at hc
  refine hc.mono ?_
  clear hc
  rintro e w3 ⟨rfl, hk⟩
  have A2 := hd (A1.out.keep hk)
  have D2 := hd (D1.out.keep hk)
  have P2 := hd (P1.out.keep hk)
  have Q2 := hd (Q1.out.keep hk)
  have B2 := hd (below_below B1.out hk)
  clear A1 D1 P1 Q1 B1 hk a0 a1 a2 d0 d1 d2
  have a0 := A2.out.cell 0
  have a1 := A2.out.cell 1
  have a2 := A2.out.cell 2
  simp at a0 a1 a2
  obtain ⟨L, hL⟩ : ∃ L, (if okB ba then batB ba else []) = L := ⟨_, rfl⟩
  obtain ⟨z, hz⟩ : ∃ z : Int, (if okB ba then (0 : Int) else 90) = z := ⟨_, rfl⟩
  obtain ⟨M, hM⟩ : ∃ L, (if okB bb then batB bb else []) = L := ⟨_, rfl⟩
  obtain ⟨y, hy⟩ : ∃ z : Int, (if okB bb then (0 : Int) else 90) = z := ⟨_, rfl⟩
  have HLZ := hd (And.intro hL hz)
  have HMY := hd (And.intro hM hy)
  clear hL hz hM hy
  go_wp2_with fail
  have HBT := bytesB_any (ag := ag) (sq := sq) P2.out HWA.out
  rw [HBA.out, HLZ.out.1, HLZ.out.2] at HBT
  refine HBT.mono ?_
  rintro e w4 ⟨a4, n4, p4, rfl, hn4, ho4, hk⟩
  have A3 := hd (A2.out.keep hk)
  have D3 := hd (D2.out.keep hk)
  have P3 := hd (P2.out.keep hk)
  have Q3 := hd (Q2.out.keep hk)
  have B3 := hd (below_below B2.out hk)
  clear A2 D2 P2 Q2 B2 
  have X3 := hd (ho4.bs)
  clear hk ho4 hn4 HBT a0 a1 a2
  have d0 := D3.out.cell 0
  have d1 := D3.out.cell 1
  have d2 := D3.out.cell 2
  simp at d0 d1 d2
  go_wp2_with fail
  have HBT := bytesB_any (ag := ag2) (sq := sq2) Q3.out HWB.out
  rw [HBB.out, HMY.out.1, HMY.out.2] at HBT
  refine HBT.mono ?_
  rintro e w5 ⟨a5, n5, p5, rfl, hn5, ho5, hk⟩
  have A4 := hd (A3.out.keep hk)
  have D4 := hd (D3.out.keep hk)
  have P4 := hd (P3.out.keep hk)
  have Q4 := hd (Q3.out.keep hk)
  have B4 := hd (below_below B3.out hk)
  have X4 := hd (X3.out.keepB hk)
  clear A3 D3 P3 Q3 B3 X3 
  have Y4 := hd (ho5.bs)
  clear hk ho5 hn5 HBT d0 d1 d2
  cases hoa : okB ba
  · have hlz := HLZ.out
    rw [hoa] at hlz
    simp only [Bool.false_eq_true, if_false] at hlz
    obtain ⟨rfl, rfl⟩ := hlz
    clear HLZ hoa
    have a0 := A4.out.cell 0
    have a1 := A4.out.cell 1
    have a2 := A4.out.cell 2
    simp at a0 a1 a2
    go_wp2_with fail
    have hc := sameB_any ag sq ag sq P4.out P4.out
    rw [sameBt_self] at hc
    refine hc.mono ?_
    clear hc
    rintro e w6 ⟨rfl, hk⟩
    have A5 := hd (A4.out.keep hk)
    have D5 := hd (D4.out.keep hk)
    have P5 := hd (P4.out.keep hk)
    have Q5 := hd (Q4.out.keep hk)
    have B5 := hd (below_below B4.out hk)
    have X5 := hd (X4.out.keepB hk)
    have Y5 := hd (Y4.out.keepB hk)
    clear A4 D4 P4 Q4 B4 X4 Y4 hk a0 a1 a2
    have a0 := A5.out.cell 0
    have a1 := A5.out.cell 1
    have a2 := A5.out.cell 2
    simp at a0 a1 a2
    have d0 := D5.out.cell 0
    have d1 := D5.out.cell 1
    have d2 := D5.out.cell 2
    simp at d0 d1 d2
    go_wp2_with fail
    have hc := sameB_any ag2 sq2 ag sq Q5.out P5.out
    rw [HBA.out, HBB.out, sameBt_comm, HSV.out] at hc
    refine hc.mono ?_
    clear hc
    rintro e w7 ⟨rfl, hk⟩
    have A6 := hd (A5.out.keep hk)
    have D6 := hd (D5.out.keep hk)
    have P6 := hd (P5.out.keep hk)
    have Q6 := hd (Q5.out.keep hk)
    have B6 := hd (below_below B5.out hk)
    have X6 := hd (X5.out.keepB hk)
    have Y6 := hd (Y5.out.keepB hk)
    clear A5 D5 P5 Q5 B5 X5 Y5 hk a0 a1 a2 d0 d1 d2
    have hss : (sv == sv) = true := beq_self_eq_true sv
    go_wp2_with fail
    go_ret
    first
    | exact VEnd.mk B6.out
    | exact VEnd.eq (VEnd.mk B6.out) (by simp)
  have HOA := hd hoa
  have hlz := HLZ.out
  rw [hoa] at hlz
  simp only [if_true] at hlz
  obtain ⟨rfl, rfl⟩ := hlz
  clear HLZ hoa
  cases hob : okB bb
  · have hlz := HMY.out
    rw [hob] at hlz
    simp only [Bool.false_eq_true, if_false] at hlz
    obtain ⟨rfl, rfl⟩ := hlz
    clear HMY hob
    have a0 := A4.out.cell 0
    have a1 := A4.out.cell 1
    have a2 := A4.out.cell 2
    simp at a0 a1 a2
    go_wp2_with fail
    have hc := sameB_any ag sq ag sq P4.out P4.out
    rw [sameBt_self] at hc
    refine hc.mono ?_
    clear hc
    rintro e w6 ⟨rfl, hk⟩
    have A5 := hd (A4.out.keep hk)
    have D5 := hd (D4.out.keep hk)
    have P5 := hd (P4.out.keep hk)
    have Q5 := hd (Q4.out.keep hk)
    have B5 := hd (below_below B4.out hk)
    have X5 := hd (X4.out.keepB hk)
    have Y5 := hd (Y4.out.keepB hk)
    clear A4 D4 P4 Q4 B4 X4 Y4 hk a0 a1 a2
    have a0 := A5.out.cell 0
    have a1 := A5.out.cell 1
    have a2 := A5.out.cell 2
    simp at a0 a1 a2
    have d0 := D5.out.cell 0
    have d1 := D5.out.cell 1
    have d2 := D5.out.cell 2
    simp at d0 d1 d2
    go_wp2_with fail
    have hc := sameB_any ag2 sq2 ag sq Q5.out P5.out
    rw [HBA.out, HBB.out, sameBt_comm, HSV.out] at hc
    refine hc.mono ?_
    clear hc
    rintro e w7 ⟨rfl, hk⟩
    have A6 := hd (A5.out.keep hk)
    have D6 := hd (D5.out.keep hk)
    have P6 := hd (P5.out.keep hk)
    have Q6 := hd (Q5.out.keep hk)
    have B6 := hd (below_below B5.out hk)
    have X6 := hd (X5.out.keepB hk)
    have Y6 := hd (Y5.out.keepB hk)
    clear A5 D5 P5 Q5 B5 X5 Y5 hk a0 a1 a2 d0 d1 d2
    have hss : (sv == sv) = true := beq_self_eq_true sv
    go_wp2_with fail
    go_ret
    first
    | exact VEnd.mk B6.out
    | exact VEnd.eq (VEnd.mk B6.out) (by simp)
  have HOB := hd hob
  have hlz := HMY.out
  rw [hob] at hlz
  simp only [if_true] at hlz
  obtain ⟨rfl, rfl⟩ := hlz
  clear HMY hob
  have a0 := A4.out.cell 0
  have a1 := A4.out.cell 1
  have a2 := A4.out.cell 2
  simp at a0 a1 a2
  go_wp2_with fail
  have hc := sameB_any ag sq ag sq P4.out P4.out
  rw [sameBt_self] at hc
  refine hc.mono ?_
  clear hc
  rintro e w6 ⟨rfl, hk⟩
  have A5 := hd (A4.out.keep hk)
  have D5 := hd (D4.out.keep hk)
  have P5 := hd (P4.out.keep hk)
  have Q5 := hd (Q4.out.keep hk)
  have B5 := hd (below_below B4.out hk)
  have X5 := hd (X4.out.keepB hk)
  have Y5 := hd (Y4.out.keepB hk)
  clear A4 D4 P4 Q4 B4 X4 Y4 hk a0 a1 a2
  have a0 := A5.out.cell 0
  have a1 := A5.out.cell 1
  have a2 := A5.out.cell 2
  simp at a0 a1 a2
  have d0 := D5.out.cell 0
  have d1 := D5.out.cell 1
  have d2 := D5.out.cell 2
  simp at d0 d1 d2
  go_wp2_with fail
  have hc := sameB_any ag2 sq2 ag sq Q5.out P5.out
  rw [HBA.out, HBB.out, sameBt_comm, HSV.out] at hc
  refine hc.mono ?_
  clear hc
  rintro e w7 ⟨rfl, hk⟩
  have A6 := hd (A5.out.keep hk)
  have D6 := hd (D5.out.keep hk)
  have P6 := hd (P5.out.keep hk)
  have Q6 := hd (Q5.out.keep hk)
  have B6 := hd (below_below B5.out hk)
  have X6 := hd (X5.out.keepB hk)
  have Y6 := hd (Y5.out.keepB hk)
  clear A5 D5 P5 Q5 B5 X5 Y5 hk a0 a1 a2 d0 d1 d2
  go_wp2_with fail
  have YB : Bx w7.heap.size w7 (Value.slice a5 n5 p5) (batB bb) := Or.inl (Y6.out.weaken (A' := fun b => b < w7.heap.size) (fun b hb _ => hb))
  refine (eq_bx X6.out YB).mono ?_
  rintro e w8 ⟨rfl, nd, rfl⟩
  rw [← same_bytes HOA.out HOB.out HFA.out HFB.out, HSV.out]
  have hk := below_drewN (Below.refl w7.heap.size w7) nd
  clear YB
  have A7 := hd (A6.out.keep hk)
  have D7 := hd (D6.out.keep hk)
  have P7 := hd (P6.out.keep hk)
  have Q7 := hd (Q6.out.keep hk)
  have B7 := hd (below_below B6.out hk)
  have X7 := hd (X6.out.keepB hk)
  have Y7 := hd (Y6.out.keepB hk)
  clear A6 D6 P6 Q6 B6 X6 Y6 hk
  generalize w7.drewN nd = w8 at *
  have hss : (sv == sv) = true := beq_self_eq_true sv
  go_wp2_with fail
  go_ret
  first
  | exact VEnd.mk B7.out
  | exact VEnd.eq (VEnd.mk B7.out) (by simp)

end Go.Proofs.Yteifaipbckhoiab
