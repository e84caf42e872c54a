/- PolicyFinds: walk of policies that may not be. -/
import Derived.Test.YtcigbfjmnhogiaaGreatDoorFd
import Derived.Test.YtcigbfjmnhogiaaGreatDoorWk
import Derived.Test.YtcigbfjmnhogiaaGreatDoorDd
import Derived.Deep.RegionHeld3
namespace Go.Proofs.YtcigbfjmnhogiaaGreatDoor
open Go.RowKit
set_option linter.unusedVariables false


theorem lbl_bad {rs : List RuleD} {qs : List ReaderD} {n : ByteArray} (hf : okPol rs qs = false) : lblOf rs qs n = (0, 0) := by
  unfold lblOf
  rw [hf]
  rfl
theorem rdr_bad {rs : List RuleD} {qs : List ReaderD} {n : ByteArray} (hf : okPol rs qs = false) : rdrOf rs qs n = ((⟨#[]⟩, 0, 0, 0, 0), false) := by
  unfold rdrOf
  rw [hf]
  rfl

set_option maxRecDepth 100000 in
set_option maxHeartbeats 8000000 in
theorem finds_bad {w : World} {u v : Value} {rs : List RuleD} {qs : List ReaderD} (n : ByteArray) (hf : okPol rs qs = false) (hr : El encR 3 w u rs) (hq : El encQ 5 w v qs) (h8 : 8 ≤ w.heap.size) (hg : Glob w) :
    Calls Tryz.prog 7 #[.agg #[u, v], .string n] w fun e w' => VEnd w (.bool true) e w' := by
  obtain ⟨u0, cu, rfl⟩ := hr.form
  obtain ⟨v0, cv, rfl⟩ := hq.form
  have K1 := hr.len
  have K2 := hq.len
  have HR := hd hr
  have HQ := hd hq
  have HG := hd hg
  have H8 := hd h8
  have HF := hd hf
  clear hr hq hg h8 hf
  obtain ⟨n1, h1⟩ : ∃ k, rs.length = k := ⟨_, rfl⟩
  obtain ⟨n2, h2⟩ : ∃ k, qs.length = k := ⟨_, rfl⟩
  rw [h1] at HR K1 ⊢
  rw [h2] at HQ K2 ⊢
  have HN1 := hd h1
  have HN2 := hd h2
  clear h1 h2
  go_enter Tryz.func7, Tryz.ntmps7
  go_wp2_with fail
  have a1 := Bk.new w 25 #[Value.slice u0 n1 cu, Value.slice v0 n2 cv]
  have k1 := below1 w (Obj.cells #[Value.slice u0 n1 cu, Value.slice v0 n2 cv] 25)
  generalize w.alloc (Obj.cells #[Value.slice u0 n1 cu, Value.slice v0 n2 cv] 25) = w1 at *
  obtain ⟨bx, hb1⟩ : ∃ b, w.heap.size = b := ⟨_, rfl⟩
  have HBB := hd hb1
  rw [hb1] at a1 ⊢
  clear hb1
  refine (works_true w1 (Nat.le_trans H8.out k1.size) (HG.out.keep k1)).mono ?_
  rintro e w2 ⟨rfl, hk2⟩
  have A0 := hd (a1.keep hk2)
  have B0 := hd (below_below k1 hk2)
  clear a1 k1 hk2
  have d0 := A0.out.cell 0
  have d1 := A0.out.cell 1
  simp at d0 d1
  go_wp2_with fail
  refine (check_pol (HR.out.keep B0.out) (HQ.out.keep B0.out)).mono ?_
  rintro e w3 ⟨rfl, hk3⟩
  rw [HF.out]
  simp only [ckI, Bool.false_eq_true, if_false]
  have A1 := hd (A0.out.keep hk3)
  have B1 := hd (below_below B0.out hk3)
  have P1 : Hid (bx < w3.heap.size) := hd A1.out.lt
  clear hk3 A0 B0 d0 d1
  go_wp2_with fail
  have L2 := hd (Bk.new w3 32 #[Value.int IntKind.i64 0, Value.int IntKind.u32 0])
  have A2 := hd (A1.out.alloc (Obj.cells #[Value.int IntKind.i64 0, Value.int IntKind.u32 0] 32))
  have B2 := hd (below_below B1.out (below1 w3 (Obj.cells #[Value.int IntKind.i64 0, Value.int IntKind.u32 0] 32)))
  have HLW : Hid (w.heap.size ≤ w3.heap.size) := hd B1.out.size
  generalize w3.alloc (Obj.cells #[Value.int IntKind.i64 0, Value.int IntKind.u32 0] 32) = w4 at *
  generalize w3.heap.size = lb at *
  have HBL : Hid (bx ≠ lb) := hd (Nat.ne_of_lt P1.out)
  have HBL2 : Hid (lb ≠ bx) := hd (fun e => HBL.out e.symm)
  clear A1 B1 P1
  go_loopw [7] (fun i wr => ∃ k : Nat, k ≤ n1 ∧ i = .int .i64 (k : Int) ∧ Below w.heap.size w wr ∧ Bk wr bx 25 #[Value.slice u0 n1 cu, Value.slice v0 n2 cv] ∧ Bk wr lb 32 #[.int .i64 0, .int .u32 0]) (fun i _ => n1 - (intOf i).toNat)
  case atStart => exact ⟨0, Nat.zero_le _, rfl, B2.out, A2.out, L2.out⟩
  case round =>
    obtain ⟨k, hkn, rfl, hb, ha, hlb⟩ := hrel
    have HB := hd hb
    have HA := hd ha
    have HLB := hd hlb
    clear hb ha hlb A2 B2 L2
    have d0 := HA.out.cell 0
    have d1 := HA.out.cell 1
    simp at d0 d1
    by_cases hlt : k < n1
    · have hlz : (k : Int) < (n1 : Int) := by omega
      go_wp2_with fail
      go_quiet (fail)
      have K7 : Below wr.heap.size wr (wr.drewN nq) := below_drewN (Below.refl _ _) nq
      have HS := hd (below_below HB.out K7)
      have HA3 := hd (HA.out.keep K7)
      have HL3 := hd (HLB.out.keep K7)
      clear d0 d1 K7
      generalize wr.drewN nq = w2 at *
      go_wp2_with fail
      go_roundw
      case rel => exact ⟨k + 1, by omega, by go_num, HS.out, HA3.out, HL3.out⟩
      case measure => simp [intOf]; omega
    · have hnl : ¬ (k : Int) < (n1 : Int) := by omega
      clear hlt
      go_wp2_with fail
      clear d0 d1 hnl
      go_loopw [8, 9] (fun fnd i wr => ∃ k : Nat, k ≤ n2 ∧ fnd = .bool false ∧ i = .int .i64 (k : Int) ∧ Below w.heap.size w wr ∧ Bk wr bx 25 #[Value.slice u0 n1 cu, Value.slice v0 n2 cv] ∧ Bk wr lb 32 #[.int .i64 0, .int .u32 0]) (fun _ i _ => n2 - (intOf i).toNat)
      case atStart => exact ⟨0, Nat.zero_le _, rfl, rfl, HB.out, HA.out, HLB.out⟩
      case round =>
        clear HB HA HLB
        obtain ⟨k, hkn, rfl, rfl, hb, ha, hlb⟩ := hrel
        have HB := hd hb
        have HA := hd ha
        have HLB := hd hlb
        clear hb ha hlb
        have d0 := HA.out.cell 0
        have d1 := HA.out.cell 1
        simp at d0 d1
        by_cases hlt : k < n2
        · have hlz : (k : Int) < (n2 : Int) := by omega
          have hxk : k < qs.length := by rw [HN2.out]; omega
          obtain ⟨⟨s1, x1, p1, a1, b1⟩, he1⟩ : ∃ r : ReaderD, qs[k]'hxk = r := ⟨_, rfl⟩
          obtain ⟨g, off, hx, hcx, _, c10, c11, c12, c13, c14⟩ := HQ.out.atQ HB.out HN2.out hlt he1
          subst hx
          have HE1 := hd he1
          clear he1
          have HRD : Hid (∀ w', Below wr.heap.size wr w' → Calls Tryz.prog 12 #[.agg #[.slice u0 n1 cu, .slice (some ⟨g, off, none⟩) n2 cv], .string s1] w' fun e w'' => e = .returned (.tuple #[.agg #[.string ⟨#[]⟩, .int .i64 0, .int .u32 0, .int .i64 0, .int .i64 0], .bool false]) ∧ Below w'.heap.size w' w'') := hd fun w' hb' => by
            have h := reader_pol s1 (HR.out.keep (below_below HB.out hb')) (HQ.out.keep (below_below HB.out hb'))
            rw [rdr_bad HF.out] at h
            exact h
          have D0 := hd d0
          have D1 := hd d1
          have C0 := hd c10
          have C1 := hd c11
          have C2 := hd c12
          have C3 := hd c13
          have C4 := hd c14
          have hg0 : ¬ g = wr.heap.size := Nat.ne_of_lt (World.block_lt_of_cell? wr _ c10)
          have hbx0 : ¬ bx = wr.heap.size := Nat.ne_of_lt HA.out.lt
          have hg1 : ¬ wr.heap.size = g := fun e => hg0 e.symm
          have hbx1 : ¬ wr.heap.size = bx := fun e => hbx0 e.symm
          go_wp2_with fail
          go_region_held3 (fun W => W.cell? ⟨bx, 0, none⟩ = some (.slice u0 n1 cu) ∧ W.cell? ⟨bx, 1, none⟩ = some (.slice (some ⟨g, off, none⟩) n2 cv) ∧ W.cell? ⟨g, off + k * 5, none⟩ = some (.string s1) ∧ W.cell? ⟨g, off + k * 5 + 1, none⟩ = some (.int .i64 x1) ∧ W.cell? ⟨g, off + k * 5 + 2, none⟩ = some (.int .u32 p1) ∧ W.cell? ⟨g, off + k * 5 + 3, none⟩ = some (.int .i64 a1) ∧ W.cell? ⟨g, off + k * 5 + 4, none⟩ = some (.int .i64 b1)) (first | exact ⟨by with_reducible assumption, by with_reducible assumption, by with_reducible assumption, by with_reducible assumption, by with_reducible assumption, by with_reducible assumption, by with_reducible assumption⟩ | go_keep) (first | (go_at_call 12; refine (HRD.out wr.drew (Below.refl _ _).drew).mono ?_; rintro e w5 ⟨rfl, hk⟩; have hb5 := below_below (Below.refl wr.heap.size wr).drew hk; have s0 : w5.cell? _ = some _ := Ltr.cell D0.out ⟨w5, hb5⟩; have s1' : w5.cell? _ = some _ := Ltr.cell D1.out ⟨w5, hb5⟩; have s2 : w5.cell? _ = some _ := Ltr.cell C0.out ⟨w5, hb5⟩; have s3 : w5.cell? _ = some _ := Ltr.cell C1.out ⟨w5, hb5⟩; have s4 : w5.cell? _ = some _ := Ltr.cell C2.out ⟨w5, hb5⟩; have s5 : w5.cell? _ = some _ := Ltr.cell C3.out ⟨w5, hb5⟩; have s6 : w5.cell? _ = some _ := Ltr.cell C4.out ⟨w5, hb5⟩; have HB5 := hd hb5; clear hb5 hk) | (go_at_call 12; refine (HRD.out (wr.alloc (Obj.cells #[Value.string ⟨#[]⟩, Value.int IntKind.i64 0, Value.int IntKind.u32 0, Value.int IntKind.i64 0, Value.int IntKind.i64 0] 34)).drew (below1 wr (Obj.cells #[Value.string ⟨#[]⟩, Value.int IntKind.i64 0, Value.int IntKind.u32 0, Value.int IntKind.i64 0, Value.int IntKind.i64 0] 34)).drew).mono ?_; rintro e w5 ⟨rfl, hk⟩; have hb5 := below_below (below1 wr (Obj.cells #[Value.string ⟨#[]⟩, Value.int IntKind.i64 0, Value.int IntKind.u32 0, Value.int IntKind.i64 0, Value.int IntKind.i64 0] 34)).drew hk; have s0 : w5.cell? _ = some _ := Ltr.cell D0.out ⟨w5, hb5⟩; have s1' : w5.cell? _ = some _ := Ltr.cell D1.out ⟨w5, hb5⟩; have s2 : w5.cell? _ = some _ := Ltr.cell C0.out ⟨w5, hb5⟩; have s3 : w5.cell? _ = some _ := Ltr.cell C1.out ⟨w5, hb5⟩; have s4 : w5.cell? _ = some _ := Ltr.cell C2.out ⟨w5, hb5⟩; have s5 : w5.cell? _ = some _ := Ltr.cell C3.out ⟨w5, hb5⟩; have s6 : w5.cell? _ = some _ := Ltr.cell C4.out ⟨w5, hb5⟩; have HB5 := hd hb5; have A7 := (Bk.new wr 34 #[Value.string ⟨#[]⟩, Value.int IntKind.i64 0, Value.int IntKind.u32 0, Value.int IntKind.i64 0, Value.int IntKind.i64 0]).drew.keep hk; have HA7 := hd A7; have y0 := A7.fz 0; have y1 := A7.fz 1; have y2 := A7.fz 2; have y3 := A7.fz 3; have y4 := A7.fz 4; have t0 := A7.cell 0; have t1 := A7.cell 1; have t2 := A7.cell 2; have t3 := A7.cell 3; have t4 := A7.cell 4; simp at t0 t1 t2 t3 t4; clear A7 hb5 hk) | fail)
          · have T6 := Bk.new w5 34 #[Value.string ⟨#[]⟩, Value.int IntKind.i64 0, Value.int IntKind.u32 0, Value.int IntKind.i64 0, Value.int IntKind.i64 0]
            have B6 := below_below HB5.out (below1 w5 (Obj.cells #[Value.string ⟨#[]⟩, Value.int IntKind.i64 0, Value.int IntKind.u32 0, Value.int IntKind.i64 0, Value.int IntKind.i64 0] 34))
            clear s0 s1' s2 s3 s4 s5 s6 d0 d1 c10 c11 c12 c13 c14
            generalize w5.alloc (Obj.cells #[Value.string ⟨#[]⟩, Value.int IntKind.i64 0, Value.int IntKind.u32 0, Value.int IntKind.i64 0, Value.int IntKind.i64 0] 34) = W6 at *
            generalize w5.heap.size = tb at *

            have A6 := hd (HA.out.keep B6)
            have L6 := hd (HLB.out.keep B6)
            have BB6 := hd (below_below HB.out B6)
            have d0 := A6.out.cell 0
            have d1 := A6.out.cell 1
            have t0 := T6.cell 0
            have t1 := T6.cell 1
            have t2 := T6.cell 2
            have t3 := T6.cell 3
            have t4 := T6.cell 4
            simp at d0 d1 t0 t1 t2 t3 t4
            have c10 : W6.cell? _ = some _ := Ltr.cell C0.out ⟨W6, B6⟩
            have c11 : W6.cell? _ = some _ := Ltr.cell C1.out ⟨W6, B6⟩
            have c12 : W6.cell? _ = some _ := Ltr.cell C2.out ⟨W6, B6⟩
            have c13 : W6.cell? _ = some _ := Ltr.cell C3.out ⟨W6, B6⟩
            have c14 : W6.cell? _ = some _ := Ltr.cell C4.out ⟨W6, B6⟩
            have HB6 := hd B6
            clear T6 B6 hg0 hg1 hbx0 hbx1
            go_wp2_with fail
            go_quiet (fail)
            have K7 : Below W6.heap.size W6 (W6.drewN nq) := below_drewN (Below.refl _ _) nq
            clear d0 d1 t0 t1 t2 t3 t4 c10 c11 c12 c13 c14
            have HS := hd (below_below BB6.out K7)
            have A7 := hd (A6.out.keep K7)
            have L7 := hd (L6.out.keep K7)
            have B7 := below_below HB6.out K7
            generalize W6.drewN nq = W7 at *
            have d0 := A7.out.cell 0
            have d1 := A7.out.cell 1
            simp at d0 d1
            have c10 : W7.cell? _ = some _ := Ltr.cell C0.out ⟨W7, B7⟩
            have c11 : W7.cell? _ = some _ := Ltr.cell C1.out ⟨W7, B7⟩
            have c12 : W7.cell? _ = some _ := Ltr.cell C2.out ⟨W7, B7⟩
            have c13 : W7.cell? _ = some _ := Ltr.cell C3.out ⟨W7, B7⟩
            have c14 : W7.cell? _ = some _ := Ltr.cell C4.out ⟨W7, B7⟩
            clear K7 B7
            go_wp2_with fail
            go_roundw
            case rel => exact ⟨k + 1, by omega, rfl, by go_num, HS.out, A7.out, L7.out⟩
            case measure => simp [intOf]; omega
          · have T6 : Bk (((((w5.setCell ⟨wr.heap.size, 0, none⟩ (.string ⟨#[]⟩)).setCell ⟨wr.heap.size, 1, none⟩ (.int .i64 0)).setCell ⟨wr.heap.size, 2, none⟩ (.int .u32 0)).setCell ⟨wr.heap.size, 3, none⟩ (.int .i64 0)).setCell ⟨wr.heap.size, 4, none⟩ (.int .i64 0)) wr.heap.size 34 #[Value.string ⟨#[]⟩, Value.int IntKind.i64 0, Value.int IntKind.u32 0, Value.int IntKind.i64 0, Value.int IntKind.i64 0] := (((((HA7.out.set 0 (.string ⟨#[]⟩)).set 1 (.int .i64 0)).set 2 (.int .u32 0)).set 3 (.int .i64 0)).set 4 (.int .i64 0))
            have B6 := (below_setCell (below_setCell (below_setCell (below_setCell (below_setCell HB5.out ⟨wr.heap.size, 0, none⟩ (.string ⟨#[]⟩) (Nat.le_refl _)) ⟨wr.heap.size, 1, none⟩ (.int .i64 0) (Nat.le_refl _)) ⟨wr.heap.size, 2, none⟩ (.int .u32 0) (Nat.le_refl _)) ⟨wr.heap.size, 3, none⟩ (.int .i64 0) (Nat.le_refl _)) ⟨wr.heap.size, 4, none⟩ (.int .i64 0) (Nat.le_refl _))
            clear s0 s1' s2 s3 s4 s5 s6 d0 d1 c10 c11 c12 c13 c14 y0 y1 y2 y3 y4 t0 t1 t2 t3 t4
            generalize (((((w5.setCell ⟨wr.heap.size, 0, none⟩ (.string ⟨#[]⟩)).setCell ⟨wr.heap.size, 1, none⟩ (.int .i64 0)).setCell ⟨wr.heap.size, 2, none⟩ (.int .u32 0)).setCell ⟨wr.heap.size, 3, none⟩ (.int .i64 0)).setCell ⟨wr.heap.size, 4, none⟩ (.int .i64 0)) = W6 at *
            obtain ⟨tb, htb⟩ : ∃ tb, wr.heap.size = tb := ⟨_, rfl⟩
            rw [htb] at T6 ⊢
            clear htb

            have A6 := hd (HA.out.keep B6)
            have L6 := hd (HLB.out.keep B6)
            have BB6 := hd (below_below HB.out B6)
            have d0 := A6.out.cell 0
            have d1 := A6.out.cell 1
            have t0 := T6.cell 0
            have t1 := T6.cell 1
            have t2 := T6.cell 2
            have t3 := T6.cell 3
            have t4 := T6.cell 4
            simp at d0 d1 t0 t1 t2 t3 t4
            have c10 : W6.cell? _ = some _ := Ltr.cell C0.out ⟨W6, B6⟩
            have c11 : W6.cell? _ = some _ := Ltr.cell C1.out ⟨W6, B6⟩
            have c12 : W6.cell? _ = some _ := Ltr.cell C2.out ⟨W6, B6⟩
            have c13 : W6.cell? _ = some _ := Ltr.cell C3.out ⟨W6, B6⟩
            have c14 : W6.cell? _ = some _ := Ltr.cell C4.out ⟨W6, B6⟩
            have HB6 := hd B6
            clear T6 B6 hg0 hg1 hbx0 hbx1
            go_wp2_with fail
            go_quiet (fail)
            have K7 : Below W6.heap.size W6 (W6.drewN nq) := below_drewN (Below.refl _ _) nq
            clear d0 d1 t0 t1 t2 t3 t4 c10 c11 c12 c13 c14
            have HS := hd (below_below BB6.out K7)
            have A7 := hd (A6.out.keep K7)
            have L7 := hd (L6.out.keep K7)
            have B7 := below_below HB6.out K7
            generalize W6.drewN nq = W7 at *
            have d0 := A7.out.cell 0
            have d1 := A7.out.cell 1
            simp at d0 d1
            have c10 : W7.cell? _ = some _ := Ltr.cell C0.out ⟨W7, B7⟩
            have c11 : W7.cell? _ = some _ := Ltr.cell C1.out ⟨W7, B7⟩
            have c12 : W7.cell? _ = some _ := Ltr.cell C2.out ⟨W7, B7⟩
            have c13 : W7.cell? _ = some _ := Ltr.cell C3.out ⟨W7, B7⟩
            have c14 : W7.cell? _ = some _ := Ltr.cell C4.out ⟨W7, B7⟩
            clear K7 B7
            go_wp2_with fail
            go_roundw
            case rel => exact ⟨k + 1, by omega, rfl, by go_num, HS.out, A7.out, L7.out⟩
            case measure => simp [intOf]; omega
        · have hnl : ¬ (k : Int) < (n2 : Int) := by omega
          clear hlt
          have HRN : Hid (Calls Tryz.prog 12 #[.agg #[.slice u0 n1 cu, .slice v0 n2 cv], .string n] wr fun e w' => VEnd wr (.tuple #[.agg #[.string ⟨#[]⟩, .int .i64 0, .int .u32 0, .int .i64 0, .int .i64 0], .bool false]) e w') := hd (by
            have h := reader_pol n (HR.out.keep HB.out) (HQ.out.keep HB.out)
            rw [rdr_bad HF.out] at h
            exact h)
          go_wp2_with fail
          refine HRN.out.mono ?_
          rintro e w5 ⟨rfl, hk5⟩
          have A5 := hd (HA.out.keep hk5)
          have L5 := hd (HLB.out.keep hk5)
          have B5 := hd (below_below HB.out hk5)
          clear hk5 d0 d1 HRN hnl
          have e24 : ∀ w, (Op.equalIn 10000 32 (.agg #[.int .i64 0, .int .u32 0]) (.agg #[.int .i64 0, .int .u32 0])).run Tryz.prog w = .ok true w := fun w => by rw [eq24]; simp
          go_wp2_with fail
          have K6 := below1 w5 (Obj.cells #[Value.string ⟨#[]⟩, Value.int IntKind.i64 0, Value.int IntKind.u32 0, Value.int IntKind.i64 0, Value.int IntKind.i64 0] 34)
          generalize w5.alloc (Obj.cells #[Value.string ⟨#[]⟩, Value.int IntKind.i64 0, Value.int IntKind.u32 0, Value.int IntKind.i64 0, Value.int IntKind.i64 0] 34) = w6 at *
          have HB6 := hd (below_below B5.out K6)
          have D0 := (A5.out.keep K6).cell 0
          have D1 := (A5.out.keep K6).cell 1
          have D2 := (L5.out.keep K6).cell 0
          have D3 := (L5.out.keep K6).cell 1
          simp at D0 D1 D2 D3
          have HLS : Hid (∀ s : Ltr w6, Calls Tryz.prog 18 #[.agg #[.slice u0 n1 cu, .slice v0 n2 cv], .string n] s.wd fun e w' => VEnd s.wd (.agg #[.int .i64 0, .int .u32 0]) e w') := hd fun s => by
            have h := label_pol n (HR.out.keep (below_below HB6.out s.bel)) (HQ.out.keep (below_below HB6.out s.bel))
            rw [lbl_bad HF.out] at h
            exact h
          clear K6
          have d0 := Ltr.cell D0
          have d1 := Ltr.cell D1
          have d2 := Ltr.cell D2
          have d3 := Ltr.cell D3
          clear D0 D1 D2 D3
          have hany := Ltr.any w6
          refine wp_region_later (by kernel_rfl) (by kernel_rfl) ?_
          repeat (go_big_quiet_step (first | (go_at_call 18; exact later_of (HLS.out _)) | fail))
          refine wpQuiet_nil ?_
          rintro _ ⟨s, rfl⟩
          have HS := hd (below_below HB6.out s.bel)
          clear hany d0 d1 d2 d3 e24
          generalize s.wd = w7 at *
          go_wp2_with fail
          go_ret
          exact VEnd.mk HS.out

end Go.Proofs.YtcigbfjmnhogiaaGreatDoor
