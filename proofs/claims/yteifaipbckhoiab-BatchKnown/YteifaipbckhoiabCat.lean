/- slices.Grow of nil, slices.Concat of three rows. -/
import Derived.Test.YteifaipbckhoiabMh
import Derived.Lib.AppendZeros
namespace Go.Proofs.Yteifaipbckhoiab
open Go.RowKit
set_option linter.unusedVariables false

/-- How a call ends that answers a new row. -/
def RowNew (w : World) (n : Nat) (l : List Int) (e : Ending) (w' : World) : Prop := ∃ a cap, e = .returned (.slice a n cap) ∧ Ow w.heap.size w' (.slice a n cap) l ∧ Below w.heap.size w w'

set_option maxHeartbeats 1000000 in
theorem grow_nil (n : Nat) (w : World) (h0 : 0 < n) (hb : n ≤ 140737488355328) :
    Calls Try.prog 52 #[.slice none 0 0, .int .i64 (n : Int)] w fun e w' => RowNew w 0 [] e w' := by
  obtain ⟨i, hi, hz, hs, hby⟩ := info5
  have hrun := Lib.run_append_nil_zeros (P := Try.prog) w 27 3 27 5 i (.int .u8 0) .i64 .i64 Try.underlying27 Try.underlying3 hi hz n h0 (by omega) (by omega) (by rw [hby]; omega)
  have hlo : ¬ (n : Int) < 0 := by omega
  have hpos : (0 : Int) < (n : Int) := by omega
  have hg : n ≤ grownCap w n 0 5 := grownCap_ge w _ _ _
  have hm : grownCap w n 0 5 ≤ maxLen := grownCap_le_maxLen w n 0 5 (by unfold maxLen; omega)
  generalize hc : grownCap w n 0 5 = c at *
  have HO : Hid (Ow w.heap.size (w.drew.alloc (.cells (Builtin.zeroCells (Value.int .u8 0).cells n ++ Builtin.zeroCells (Value.int .u8 0).cells (c - n)) 5)) (.slice (some ⟨w.heap.size, 0, none⟩) 0 c) []) := hd (by
    refine ⟨Byt.nil, Nat.zero_le _, ?_⟩
    exact ⟨by simp, Or.inr ⟨w.heap.size, _, _, rfl, Nat.le_refl _, heap_alloc_new w.drew _, Nat.zero_le _, hm, by simp [Builtin.zeroCells, Value.cells]; omega, by simp⟩⟩)
  have HK : Hid (Below w.heap.size w (w.drew.alloc (.cells (Builtin.zeroCells (Value.int .u8 0).cells n ++ Builtin.zeroCells (Value.int .u8 0).cells (c - n)) 5))) := hd (((Below.refl _ w).drew).alloc (Nat.le_refl _) _)
  generalize w.drew.alloc (.cells (Builtin.zeroCells (Value.int .u8 0).cells n ++ Builtin.zeroCells (Value.int .u8 0).cells (c - n)) 5) = w1 at *
  have HR := hd hrun
  clear hrun hc
  go_enter Try.func52, Try.ntmps52
  go_wp2_with (at_builtin; refine wpList_append_run _ rfl _ _ _ _ rfl _ _ rfl rfl _ w1 HR.out ?_)
  go_ret
  exact ⟨_, _, rfl, HO.out, HK.out⟩

set_option maxRecDepth 100000 in
set_option maxHeartbeats 2000000 in
theorem concat3 {w : World} {b n0 n1 n2 c0 c1 c2 n : Nat} {a0 a1 a2 : Option Addr} {l0 l1 l2 : List Int} (hb0 : w.cell? ⟨b, 0, none⟩ = some (.slice a0 n0 c0)) (hb1 : w.cell? ⟨b, 1, none⟩ = some (.slice a1 n1 c1)) (hb2 : w.cell? ⟨b, 2, none⟩ = some (.slice a2 n2 c2))
    (h0 : Bx w.heap.size w (.slice a0 n0 c0) l0) (h1 : Bx w.heap.size w (.slice a1 n1 c1) l1) (h2 : Bx w.heap.size w (.slice a2 n2 c2) l2) (y0 : Byt l0) (y1 : Byt l1) (y2 : Byt l2) (e0 : l0.length = n0) (e1 : l1.length = n1) (e2 : l2.length = n2)
    (hn : n0 + n1 + n2 = n) (hpos : 0 < n) (hbig : n ≤ 140737488355328) (hbw : b < w.heap.size) :
    Calls Try.prog 37 #[.slice (some ⟨b, 0, none⟩) 3 3] w fun e w' => RowNew w n (l0 ++ l1 ++ l2) e w' := by
  have HB := hd hbw
  have H0 := hd h0; have H1 := hd h1; have H2 := hd h2; have Y0 := hd y0; have Y1 := hd y1; have Y2 := hd y2; have E0 := hd e0; have E1 := hd e1; have E2 := hd e2
  have hI : (n0 : Int) + (n1 : Int) + (n2 : Int) = (n : Int) := by omega
  have hI1 : (n0 : Int) + (n1 : Int) ≤ 140737488355328 := by omega
  have hI2 : (n : Int) ≤ 140737488355328 := by omega
  have HN := hd hn; have HP := hd hpos; have HG := hd hbig
  clear h0 h1 h2 y0 y1 y2 e0 e1 e2 hbw hn hpos hbig
  go_enter Try.func37, Try.ntmps37
  go_wp2
  refine wp_loop_rounds 4 ?_
  iterate 3
    rw [rounds_succ]
    go_wp2
  rw [rounds_succ]
  go_wp2_with (go_at_call 52; refine (grow_nil n _ HP.out HG.out).mono ?_; rintro e w1 ⟨ag, cg, rfl, hg, hbel⟩; have G := hd hg; have BEL := hd hbel; clear hg hbel)
  obtain ⟨v1, w2, r1, o1, s1⟩ := append_ow G.out (H0.out.keep BEL.out) Y0.out BEL.out.size (by have := HN.out; have := HG.out; have := E0.out; simp; omega) 27
  have B2 := hd (BEL.out.trans s1)
  obtain ⟨v2, w3, r2, o2, s2⟩ := append_ow o1 (H1.out.keep B2.out) Y1.out B2.out.size (by have := HN.out; have := HG.out; have := E0.out; have := E1.out; simp; omega) 27
  have B3 := hd (B2.out.trans s2)
  obtain ⟨v3, w4, r3, o3, s3⟩ := append_ow o2 (H2.out.keep B3.out) Y2.out B3.out.size (by have := HN.out; have := HG.out; have := E0.out; have := E1.out; have := E2.out; simp; omega) 27
  have B4 := hd (B3.out.trans s3)
  have hc0 : w1.cell? ⟨b, 0, none⟩ = some (.slice a0 n0 c0) := (BEL.out.cell (p := ⟨b, 0, none⟩) HB.out).trans hb0
  have hc1 : w2.cell? ⟨b, 1, none⟩ = some (.slice a1 n1 c1) := (B2.out.cell (p := ⟨b, 1, none⟩) HB.out).trans hb1
  have hc2 : w3.cell? ⟨b, 2, none⟩ = some (.slice a2 n2 c2) := (B3.out.cell (p := ⟨b, 2, none⟩) HB.out).trans hb2
  have R1 := hd r1; have R2 := hd r2; have R3 := hd r3
  have O3 : Hid (Ow w.heap.size w4 v3 (l0 ++ l1 ++ l2)) := hd (by simpa using o3)
  clear r1 r2 r3 o1 o2 o3 s1 s2 s3 hb0 hb1 hb2
  refine wp_loop_rounds 4 ?_
  iterate 4
    rw [rounds_succ]
    go_wp2_with (at_builtin; first | refine wpList_append_run _ rfl _ _ _ _ rfl _ _ rfl rfl v1 w2 R1.out ?_ | refine wpList_append_run _ rfl _ _ _ _ rfl _ _ rfl rfl v2 w3 R2.out ?_ | refine wpList_append_run _ rfl _ _ _ _ rfl _ _ rfl rfl v3 w4 R3.out ?_)
  go_ret
  obtain ⟨a, cap, hv⟩ := O3.out.len
  have hl : (l0 ++ l1 ++ l2).length = n := by have := E0.out; have := E1.out; have := E2.out; have := HN.out; simp; omega
  rw [hl] at hv
  exact ⟨a, cap, congrArg Ending.returned hv, hv ▸ O3.out, B4.out⟩

end Go.Proofs.Yteifaipbckhoiab
