/- BatchBack: the law's walk. -/
import Derived.Test.YteifaipbckhoiaaRq
namespace Go.Proofs.Yteifaipbckhoiaa
open Go.RowKit
set_option linter.unusedVariables false

set_option maxRecDepth 100000 in
set_option maxHeartbeats 8000000 in
theorem back_walk {w : World} {c : Value} {qs : List SpanV} {ag sq : Int} (h : BatIn w ag sq c qs) :
    Calls Try.prog 5 #[.agg #[.int .i64 ag, .int .i64 sq, c]] w fun e w' => VEnd w (.bool true) e w' := by
  obtain ⟨x0, cap, rfl⟩ := h.sps.el.form
  obtain ⟨n, hn⟩ : ∃ n, qs.length = n := ⟨_, rfl⟩
  have HW := hd h.wf
  have H := hd h.sps
  rw [hn] at H ⊢
  obtain ⟨bb, hbb⟩ : ∃ b : BatchD, (⟨ag, sq, spd qs⟩ : BatchD) = b := ⟨_, rfl⟩
  have HBB := hd hbb
  have HWB : Hid (WfB bb) := hd (by
    rw [← hbb]
    intro s hs
    obtain ⟨q, hq, rfl⟩ := List.mem_map.1 hs
    exact h.wf q hq)
  clear hn h hbb
  have NB := below1 w (Obj.cells #[Value.int IntKind.i64 ag, Value.int IntKind.i64 sq, Value.slice x0 n cap] 24)
  have A0 := hd (Bk.new w 24 #[Value.int IntKind.i64 ag, Value.int IntKind.i64 sq, Value.slice x0 n cap])
  have P0 := hd (H.out.keep NB)
  have B0 := hd (NB)
  clear NB H
  go_enter Try.func5, Try.ntmps5
  go_wp2_with fail
  generalize w.alloc (Obj.cells #[Value.int IntKind.i64 ag, Value.int IntKind.i64 sq, Value.slice x0 n cap] 24) = w1 at *
  refine (works_true w1).mono ?_
  rintro e w2 ⟨rfl, hk⟩
  have A1 := hd (A0.out.keep hk)
  have P1 := hd (P0.out.keep hk)
  have B1 := hd (below_below B0.out hk)
  clear A0 P0 B0 hk
  have a0 := A1.out.cell 0
  have a1 := A1.out.cell 1
  have a2 := A1.out.cell 2
  simp at a0 a1 a2
  go_wp2_with fail
  have HBT := bytesB_any (ag := ag) (sq := sq) P1.out HW.out
  rw [HBB.out] at HBT
  cases hok : okB bb
  · have HOK := hd hok
    rw [hok] at HBT
    simp only [Bool.false_eq_true, if_false] at HBT
    clear hok
    refine HBT.mono ?_
    rintro e w3 ⟨a3, n3, p3, rfl, hn3, ho3, hk⟩
    obtain rfl : n3 = 0 := hn3.symm
    have A2 := hd (A1.out.keep hk)
    have P2 := hd (P1.out.keep hk)
    have B2 := hd (below_below B1.out hk)
    clear A1 P1 B1 HBT ho3 hk hn3 a0 a1 a2
    have a0 := A2.out.cell 0
    have a1 := A2.out.cell 1
    have a2 := A2.out.cell 2
    simp at a0 a1 a2
    go_wp2_with fail
    have HC := checkB_any (ag := ag) (sq := sq) P2.out HW.out
    rw [HBB.out, HOK.out] at HC
    simp only [Bool.false_eq_true, if_false] at HC
    refine HC.mono ?_
    rintro e w4 ⟨rfl, hk⟩
    have A3 := hd (A2.out.keep hk)
    have P3 := hd (P2.out.keep hk)
    have B3 := hd (below_below B2.out hk)
    clear A2 P2 B2 HC hk a0 a1 a2
    have a0 := A3.out.cell 0
    have a1 := A3.out.cell 1
    have a2 := A3.out.cell 2
    simp at a0 a1 a2
    go_wp2_with fail
    have HC := checkB_any (ag := ag) (sq := sq) P3.out HW.out
    rw [HBB.out, HOK.out] at HC
    simp only [Bool.false_eq_true, if_false] at HC
    refine HC.mono ?_
    rintro e w5 ⟨rfl, hk⟩
    have A4 := hd (A3.out.keep hk)
    have P4 := hd (P3.out.keep hk)
    have B4 := hd (below_below B3.out hk)
    clear A3 P3 B3 HC hk a0 a1 a2
    go_wp2_with fail
    go_ret
    exact VEnd.mk B4.out
  · have HOK := hd hok
    rw [hok] at HBT
    simp only [if_true] at HBT
    clear hok
    refine HBT.mono ?_
    rintro e w3 ⟨a3, n3, p3, rfl, hn3, ho3, hk⟩
    have A2 := hd (A1.out.keep hk)
    have P2 := hd (P1.out.keep hk)
    have B2 := hd (below_below B1.out hk)
    clear A1 P1 B1 HBT hk a0 a1 a2
    have X2 := hd (ho3.bs)
    have HN3 := hd hn3
    clear ho3 hn3
    have a0 := A2.out.cell 0
    have a1 := A2.out.cell 1
    have a2 := A2.out.cell 2
    simp at a0 a1 a2
    go_wp2_with fail
    have HC := checkB_any (ag := ag) (sq := sq) P2.out HW.out
    rw [HBB.out, HOK.out] at HC
    simp only [if_true] at HC
    refine HC.mono ?_
    rintro e w4 ⟨rfl, hk⟩
    have A3 := hd (A2.out.keep hk)
    have P3 := hd (P2.out.keep hk)
    have B3 := hd (below_below B2.out hk)
    have X3 := hd (X2.out.keepB hk)
    clear A2 P2 B2 X2 HC hk a0 a1 a2
    go_wp2_with fail
    have XB : Bx w4.heap.size w4 (Value.slice a3 n3 p3) (batB bb) := Or.inl (X3.out.weaken (A' := fun b => b < w4.heap.size) (fun b hb _ => hb))
    have HPT := parseB_is XB X3.out.1
    rw [parse_back HOK.out HWB.out] at HPT
    have HPT2 : Calls Try.prog 21 #[Value.slice a3 n3 p3] w4 fun e w' => ∃ c qs2, e = .returned (.tuple #[.agg #[.int .i64 bb.ag, .int .i64 bb.sq, c], .int .i64 0]) ∧ spd qs2 = bb.sp ∧ OwB w4.heap.size w' c qs2 ∧ Below w4.heap.size w4 w' := HPT
    have hag : bb.ag = ag := by rw [← HBB.out]
    have hsq : bb.sq = sq := by rw [← HBB.out]
    rw [hag, hsq] at HPT2
    refine HPT2.mono ?_
    rintro e w5 ⟨c5, qs5, rfl, hs, ho, hk⟩
    obtain ⟨x5, p5, rfl⟩ := ho.form
    obtain ⟨n5, hn5⟩ : ∃ n, qs5.length = n := ⟨_, rfl⟩
    rw [hn5] at ho ⊢
    have S5 := hd hs
    have HLB : Hid (n3 ≤ 8192) := hd (by have := (okB_parts HOK.out).2.2.2.2; have := HN3.out; omega)
    clear X3
    have A4 := hd (A3.out.keep hk)
    have P4 := hd (P3.out.keep hk)
    have B4 := hd (below_below B3.out hk)
    clear A3 P3 B3 
    have Q4 := hd (ho.sps)
    clear hk ho hs hn5 HPT HPT2 XB hag hsq HN3
    have NB := below1 w5 (Obj.cells #[Value.int IntKind.i64 ag, Value.int IntKind.i64 sq, Value.slice x5 n5 p5] 24)
    have A5 := hd (A4.out.keep NB)
    have P5 := hd (P4.out.keep NB)
    have B5 := hd (below_below B4.out NB)
    have Q5 := hd (Q4.out.keep NB)
    clear A4 P4 B4 Q4 
    have D5 := hd (Bk.new w5 24 #[Value.int IntKind.i64 ag, Value.int IntKind.i64 sq, Value.slice x5 n5 p5])
    clear NB
    have a0 := A5.out.cell 0
    have a1 := A5.out.cell 1
    have a2 := A5.out.cell 2
    simp at a0 a1 a2
    have d0 := D5.out.cell 0
    have d1 := D5.out.cell 1
    have d2 := D5.out.cell 2
    simp at d0 d1 d2
    go_wp2_with fail
    generalize w5.alloc (Obj.cells #[Value.int IntKind.i64 ag, Value.int IntKind.i64 sq, Value.slice x5 n5 p5] 24) = w6 at *
    generalize w5.heap.size = g5 at *
    have hsm := sameB_any ag sq ag sq P5.out Q5.out
    rw [S5.out, HBB.out, show (⟨ag, sq, bb.sp⟩ : BatchD) = bb by rw [← HBB.out], sameBt_self] at hsm
    refine hsm.mono ?_
    clear hsm
    rintro e w7 ⟨rfl, hk⟩
    have A6 := hd (A5.out.keep hk)
    have P6 := hd (P5.out.keep hk)
    have B6 := hd (below_below B5.out hk)
    have Q6 := hd (Q5.out.keep hk)
    have D6 := hd (D5.out.keep hk)
    clear A5 P5 B5 Q5 D5 hk a0 a1 a2 d0 d1 d2
    have a0 := A6.out.cell 0
    have a1 := A6.out.cell 1
    have a2 := A6.out.cell 2
    simp at a0 a1 a2
    have d0 := D6.out.cell 0
    have d1 := D6.out.cell 1
    have d2 := D6.out.cell 2
    simp at d0 d1 d2
    go_wp2_with fail
    have hsm := rsameB_any ag sq ag sq P6.out Q6.out
    rw [S5.out, HBB.out, show (⟨ag, sq, bb.sp⟩ : BatchD) = bb by rw [← HBB.out], sameBt_self] at hsm
    refine hsm.mono ?_
    clear hsm
    rintro e w8 ⟨rfl, hk⟩
    have A7 := hd (A6.out.keep hk)
    have P7 := hd (P6.out.keep hk)
    have B7 := hd (below_below B6.out hk)
    have Q7 := hd (Q6.out.keep hk)
    have D7 := hd (D6.out.keep hk)
    clear A6 P6 B6 Q6 D6 hk a0 a1 a2 d0 d1 d2
    have h8 : decide ((n3 : Int) ≤ 8192) = true := decide_eq_true (by have := HLB.out; omega)
    go_wp2_with fail
    go_ret
    exact VEnd.mk B7.out

end Go.Proofs.Yteifaipbckhoiaa
