/- strings.Split at line ends and at blanks; a slice of texts of its own. -/
import Derived.Test.YtcigbfjmnhogiaaGreatDoorSpl
import Derived.Test.YtcigbfjmnhogiaaGreatDoorBj
import Derived.Lib.Split
namespace Go.Proofs.YtcigbfjmnhogiaaGreatDoor
open Go.RowKit
set_option linter.unusedVariables false

theorem spl_step (r : ByteArray) (c : UInt8) (h : 0 < r.data.toList.count c) : ∃ i, i < r.size ∧ firstIdx r c = (i : Int) ∧ (cutL c r.data.toList).map tB = r.extract 0 i :: (cutL c (r.extract (i + 1) r.size).data.toList).map tB ∧
    (r.extract (i + 1) r.size).data.toList.count c + 1 = r.data.toList.count c := by
  rcases first_split r c with ⟨_, hn⟩ | ⟨a, b, he, ha, hi⟩
  · exact absurd (List.count_pos_iff.1 h) hn
  · have hr : r = tB (a ++ c :: b) := by rw [← he, tB_of]
    have e1 : r.extract 0 a.length = tB a := by rw [hr]; exact ext_left a b c
    have e2 : r.extract (a.length + 1) r.size = tB b := by rw [hr]; exact ext_right a b c
    have hsz : r.size = (a ++ c :: b).length := by rw [hr, tB_size]
    refine ⟨a.length, by rw [hsz]; simp, hi, ?_, ?_⟩
    · rw [e1, e2, he, cutL_some c b ha]
      rfl
    · rw [e2, he, tB_data, List.count_append, List.count_cons_self, List.count_eq_zero.2 ha]
      omega
theorem spl_end (r : ByteArray) (c : UInt8) (h : r.data.toList.count c = 0) : (cutL c r.data.toList).map tB = [r] := by
  rw [cutL_none c (List.count_eq_zero.1 h), List.map_cons, List.map_nil, tB_of]
/-- How Split ends: the pieces lie in a new block. -/
def SpA (w : World) (ps : List ByteArray) (e : Ending) (w' : World) : Prop := ∃ v, e = .returned v ∧ Ts w' v ps ∧ Below w.heap.size w w'
theorem SpA.mk {w W : World} {done ps : List ByteArray} {r : ByteArray} {N k : Nat} (hl : done.length = k) (hk : done.length < N) (hN : N = k + 1) (hb : Bk W w.heap.size 9 (Lib.cellsOf done N)) (hbel : Below w.heap.size w W) (hp : done ++ [r] = ps) :
    SpA w ps (.returned (.slice (some ⟨w.heap.size, 0, none⟩) (k + 1) N)) (W.setCell ⟨w.heap.size, k, none⟩ (.string r)) := by
  subst hl hN
  have hb' := hb.set done.length (.string r)
  rw [Lib.cellsOf_set hk, hp] at hb'
  have hpl : ps.length = done.length + 1 := by rw [← hp]; simp
  rw [← hpl, Lib.cellsOf_full] at hb'
  refine ⟨_, rfl, ⟨w.heap.size, ?_, hb'⟩, below_setCell hbel _ _ (Nat.le_refl _)⟩
  rw [hpl]

set_option maxHeartbeats 400000 in
theorem sindexN (s : ByteArray) (k : Int) (w : World) (h : firstIdx s 10 = k) :
    Calls Tryz.prog 56 #[.string s, .string ⟨#[10]⟩] w fun e w' => e = .returned (.int .i64 k) ∧ w' = w := by
  have H := hd h
  clear h
  go_enter Tryz.func56, Tryz.ntmps56
  go_wp2_with (go_at_call 84; refine (index1N s k _ H.out).mono ?_; rintro e w' ⟨rfl, rfl⟩)
  go_ret
  exact ⟨rfl, rfl⟩

theorem countN (s : ByteArray) (w : World) : Calls Tryz.prog 25 #[.string s, .string ⟨#[10]⟩] w fun e w' => e = .returned (.int .i64 ((s.data.toList.count 10 : Nat) : Int)) ∧ w' = w :=
  (Any.strings_Count_one countL s 10 w).mono fun e w' ⟨he, hw⟩ => ⟨by rw [he]; rfl, hw⟩

set_option maxRecDepth 100000 in
set_option maxHeartbeats 8000000 in
theorem gensN (s : ByteArray) (w : World) (hs : s.size ≤ 140737488355328) (hc : s.data.toList.count 10 + 1 ≤ 17592186044416) :
    Calls Tryz.prog 57 #[.string s, .string ⟨#[10]⟩, .int .i64 0, .int .i64 (-1)] w fun e w' => SpA w ((cutL 10 s.data.toList).map tB) e w' := by
  obtain ⟨cnt, hcnt⟩ : ∃ cnt, s.data.toList.count 10 = cnt := ⟨_, rfl⟩
  have HC := hd fun w => countN s w
  rw [hcnt] at HC hc
  obtain ⟨ps, hps⟩ : ∃ ps, (cutL 10 s.data.toList).map tB = ps := ⟨_, rfl⟩
  rw [hps]
  have HPS := hd hps
  obtain ⟨sn, hsn⟩ : ∃ sn, s.size = sn := ⟨_, rfl⟩
  have hle : cnt ≤ sn := by
    have h1 : s.data.toList.count 10 ≤ s.data.toList.length := List.count_le_length
    have h2 : s.data.toList.length = s.size := by simp
    omega
  have hmk : ∀ w : World, (Instr.makeSlice 47 (.int .i64 ((cnt : Int) + 1)) (.int .i64 ((cnt : Int) + 1))).run Tryz.prog w = .ok (.slice (some ⟨w.heap.size, 0, none⟩) (cnt + 1) (cnt + 1)) (w.alloc (.cells (madeCells #[.string ByteArray.empty] (cnt + 1)) 9)) := fun w => run_make_row' (P := Tryz.prog) 47 9 (.string ByteArray.empty) 16 Tryz.underlying47 info9 rfl .i64 .i64 (cnt + 1) (by omega) (by omega) w
  have hmin : min (cnt : Int) (sn : Int) = (cnt : Int) := by omega
  have hw1 : IntKind.i64.wrap ((sn : Int) + 1) = (sn : Int) + 1 := wrap_small _ (by omega) (by omega)
  have hw2 : IntKind.i64.wrap ((cnt : Int) + 1) = (cnt : Int) + 1 := wrap_small _ (by omega) (by omega)
  have hw3 : wrap64 ((cnt : Int) + 1) = (cnt : Int) + 1 := by unfold wrap64; omega
  have HSZ := hd hs
  have HSN := hd hsn
  have HCN := hd hcnt
  have HB0 := hd hc
  have hb1 : (cnt : Int) ≤ 17592186044416 := by omega
  clear hs hcnt hps hc hle
  go_enter Tryz.func57, Tryz.ntmps57
  go_wp2_with fail
  refine (HC.out _).mono ?_
  rintro e w ⟨rfl, rfl⟩
  go_wp2_with fail
  have A1 := Bk.new w 9 (madeCells #[Value.string ByteArray.empty] (cnt + 1))
  have B1 := below1 w (Obj.cells (madeCells #[Value.string ByteArray.empty] (cnt + 1)) 9)
  have EC := hd (Lib.cellsOf_nil (cnt + 1))
  generalize w.alloc (Obj.cells (madeCells #[Value.string ByteArray.empty] (cnt + 1)) 9) = w1 at *
  rw [← EC.out] at A1
  clear hmk hmin hw1 hw2 hw3
  go_loopw [0, 10] (fun a i wr => ∃ (r : ByteArray) (done : List ByteArray) (k : Nat), a = .string r ∧ i = .int .i64 (k : Int) ∧ done.length = k ∧ k + r.data.toList.count 10 = cnt ∧ r.size ≤ s.size ∧ Bk wr w.heap.size 9 (Lib.cellsOf done (cnt + 1)) ∧ Below w.heap.size w wr ∧ done ++ (cutL 10 r.data.toList).map tB = ps) (fun _ i _ => cnt - (intOf i).toNat)
  case atStart => exact ⟨s, [], 0, rfl, rfl, rfl, by rw [HCN.out, Nat.zero_add], Nat.le_refl _, A1, B1, HPS.out⟩
  case round =>
    obtain ⟨r, done, k, rfl, rfl, hl, hk, hr, hb, hbel, heq⟩ := hrel
    have HB := hd hb
    have HL := hd hl
    have HR := hd hr
    have HBL := hd hbel
    have HE := hd heq
    have HK := hd hk
    have hkN : done.length < cnt + 1 := by omega
    have c0 := hb.cell k
    rw [← hl, Lib.cellsOf_next hkN, hl] at c0
    have f0 := hb.fz k
    have HKN := hd hkN
    have kn1 : (k : Int) < (cnt : Int) + 1 := by omega
    have kn2 : (k : Int) + 1 ≤ (cnt : Int) + 1 := by omega
    clear hb hl hr hbel heq A1 B1 hkN
    by_cases hlt : k < cnt
    · have hlz : (k : Int) < (cnt : Int) := by omega
      have HLZ := hd hlt
      obtain ⟨i, hi, hm, hcut, hcn⟩ := spl_step r 10 (by omega)
      clear hlt hk
      have HM := hd hm
      have HI := hd hi
      have HCUT := hd hcut
      have HCC := hd hcn
      clear hm hcut hcn
      obtain ⟨rn, hrn⟩ : ∃ rn, r.size = rn := ⟨_, rfl⟩
      have z0 : (0 : Int) ≤ (i : Int) := by omega
      have z1 : (i : Int) ≤ (rn : Int) := by omega
      have z2 : ¬ (i : Int) < 0 := by omega
      have z3 : IntKind.i64.wrap ((i : Int) + 1) = ((i + 1 : Nat) : Int) := by rw [wrap_small _ (by have := HR.out; have := HSZ.out; omega) (by have := HR.out; have := HSZ.out; omega)]; omega
      have z4 : wrap64 (i : Int) = (i : Int) := by have := HR.out; have := HSZ.out; unfold wrap64; omega
      have z5 : (0 : Int) ≤ ((i + 1 : Nat) : Int) := by omega
      have z6 : ((i + 1 : Nat) : Int) ≤ (rn : Int) := by omega
      have HRN := hd hrn
      clear hi
      go_wp2_with (go_at_call 56; refine (sindexN r i _ HM.out).mono ?_; rintro e w' ⟨rfl, rfl⟩)
      go_roundw
      case rel =>
        refine ⟨_, done ++ [r.extract 0 i], k + 1, rfl, by go_num, by rw [List.length_append, HL.out]; rfl, by have := HCC.out; rw [HRN.out] at this; have := HK.out; omega, by rw [ByteArray.size_extract]; have := HR.out; omega, ?_, below_setCell HBL.out _ _ (Nat.le_refl _), ?_⟩
        · have hb' := HB.out.set k (.string (r.extract 0 i))
          have hkN := HKN.out
          have h' := Lib.cellsOf_set hkN (r.extract 0 i)
          rw [HL.out] at h'
          rw [h'] at hb'
          exact hb'
        · have h' := HE.out
          rw [HCUT.out, HRN.out] at h'
          rw [List.append_assoc]
          exact h'
      case measure => have := HLZ.out; show cnt - (intOf (.int .i64 ((k : Int) + 1))).toNat < cnt - (intOf (.int .i64 (k : Int))).toNat; simp only [intOf]; omega
    · have hlz : ¬ (k : Int) < (cnt : Int) := by omega
      have HLZ := hd (show k = cnt by omega)
      have h0 : r.data.toList.count 10 = 0 := by omega
      have HE2 : Hid (done ++ [r] = ps) := hd (by rw [← HE.out, spl_end r 10 h0])
      clear hlt hk h0
      go_wp2_with fail
      go_ret
      exact SpA.mk HL.out HKN.out (by rw [HLZ.out]) HB.out HBL.out HE2.out

set_option maxHeartbeats 400000 in
theorem splitN (s : ByteArray) (w : World) (hs : s.size ≤ 140737488355328) (hc : s.data.toList.count 10 + 1 ≤ 17592186044416) :
    Calls Tryz.prog 26 #[.string s, .string ⟨#[10]⟩] w fun e w' => SpA w ((cutL 10 s.data.toList).map tB) e w' := by
  have H := hd fun w => gensN s w hs hc
  obtain ⟨ps, hps⟩ : ∃ ps, (cutL 10 s.data.toList).map tB = ps := ⟨_, rfl⟩
  rw [hps] at H ⊢
  clear hs hc hps
  go_enter Tryz.func26, Tryz.ntmps26
  go_wp2_with fail
  refine (H.out _).mono ?_
  rintro e w' ⟨v, rfl, ht, hk⟩
  have HT := hd ht
  have HK := hd hk
  obtain ⟨g, rfl, _⟩ := ht
  clear hk
  go_wp2_with fail
  go_ret
  exact ⟨_, rfl, HT.out, HK.out⟩

theorem countS (s : ByteArray) (w : World) : Calls Tryz.prog 25 #[.string s, .string ⟨#[32]⟩] w fun e w' => e = .returned (.int .i64 ((s.data.toList.count 32 : Nat) : Int)) ∧ w' = w :=
  (Any.strings_Count_one countL s 32 w).mono fun e w' ⟨he, hw⟩ => ⟨by rw [he]; rfl, hw⟩

set_option maxRecDepth 100000 in
set_option maxHeartbeats 8000000 in
theorem gensS (s : ByteArray) (w : World) (hs : s.size ≤ 140737488355328) (hc : s.data.toList.count 32 + 1 ≤ 17592186044416) :
    Calls Tryz.prog 57 #[.string s, .string ⟨#[32]⟩, .int .i64 0, .int .i64 (-1)] w fun e w' => SpA w ((cutL 32 s.data.toList).map tB) e w' := by
  obtain ⟨cnt, hcnt⟩ : ∃ cnt, s.data.toList.count 32 = cnt := ⟨_, rfl⟩
  have HC := hd fun w => countS s w
  rw [hcnt] at HC hc
  obtain ⟨ps, hps⟩ : ∃ ps, (cutL 32 s.data.toList).map tB = ps := ⟨_, rfl⟩
  rw [hps]
  have HPS := hd hps
  obtain ⟨sn, hsn⟩ : ∃ sn, s.size = sn := ⟨_, rfl⟩
  have hle : cnt ≤ sn := by
    have h1 : s.data.toList.count 32 ≤ s.data.toList.length := List.count_le_length
    have h2 : s.data.toList.length = s.size := by simp
    omega
  have hmk : ∀ w : World, (Instr.makeSlice 47 (.int .i64 ((cnt : Int) + 1)) (.int .i64 ((cnt : Int) + 1))).run Tryz.prog w = .ok (.slice (some ⟨w.heap.size, 0, none⟩) (cnt + 1) (cnt + 1)) (w.alloc (.cells (madeCells #[.string ByteArray.empty] (cnt + 1)) 9)) := fun w => run_make_row' (P := Tryz.prog) 47 9 (.string ByteArray.empty) 16 Tryz.underlying47 info9 rfl .i64 .i64 (cnt + 1) (by omega) (by omega) w
  have hmin : min (cnt : Int) (sn : Int) = (cnt : Int) := by omega
  have hw1 : IntKind.i64.wrap ((sn : Int) + 1) = (sn : Int) + 1 := wrap_small _ (by omega) (by omega)
  have hw2 : IntKind.i64.wrap ((cnt : Int) + 1) = (cnt : Int) + 1 := wrap_small _ (by omega) (by omega)
  have hw3 : wrap64 ((cnt : Int) + 1) = (cnt : Int) + 1 := by unfold wrap64; omega
  have HSZ := hd hs
  have HSN := hd hsn
  have HCN := hd hcnt
  have HB0 := hd hc
  have hb1 : (cnt : Int) ≤ 17592186044416 := by omega
  clear hs hcnt hps hc hle
  go_enter Tryz.func57, Tryz.ntmps57
  go_wp2_with fail
  refine (HC.out _).mono ?_
  rintro e w ⟨rfl, rfl⟩
  go_wp2_with fail
  have A1 := Bk.new w 9 (madeCells #[Value.string ByteArray.empty] (cnt + 1))
  have B1 := below1 w (Obj.cells (madeCells #[Value.string ByteArray.empty] (cnt + 1)) 9)
  have EC := hd (Lib.cellsOf_nil (cnt + 1))
  generalize w.alloc (Obj.cells (madeCells #[Value.string ByteArray.empty] (cnt + 1)) 9) = w1 at *
  rw [← EC.out] at A1
  clear hmk hmin hw1 hw2 hw3
  go_loopw [0, 10] (fun a i wr => ∃ (r : ByteArray) (done : List ByteArray) (k : Nat), a = .string r ∧ i = .int .i64 (k : Int) ∧ done.length = k ∧ k + r.data.toList.count 32 = cnt ∧ r.size ≤ s.size ∧ Bk wr w.heap.size 9 (Lib.cellsOf done (cnt + 1)) ∧ Below w.heap.size w wr ∧ done ++ (cutL 32 r.data.toList).map tB = ps) (fun _ i _ => cnt - (intOf i).toNat)
  case atStart => exact ⟨s, [], 0, rfl, rfl, rfl, by rw [HCN.out, Nat.zero_add], Nat.le_refl _, A1, B1, HPS.out⟩
  case round =>
    obtain ⟨r, done, k, rfl, rfl, hl, hk, hr, hb, hbel, heq⟩ := hrel
    have HB := hd hb
    have HL := hd hl
    have HR := hd hr
    have HBL := hd hbel
    have HE := hd heq
    have HK := hd hk
    have hkN : done.length < cnt + 1 := by omega
    have c0 := hb.cell k
    rw [← hl, Lib.cellsOf_next hkN, hl] at c0
    have f0 := hb.fz k
    have HKN := hd hkN
    have kn1 : (k : Int) < (cnt : Int) + 1 := by omega
    have kn2 : (k : Int) + 1 ≤ (cnt : Int) + 1 := by omega
    clear hb hl hr hbel heq A1 B1 hkN
    by_cases hlt : k < cnt
    · have hlz : (k : Int) < (cnt : Int) := by omega
      have HLZ := hd hlt
      obtain ⟨i, hi, hm, hcut, hcn⟩ := spl_step r 32 (by omega)
      clear hlt hk
      have HM := hd hm
      have HI := hd hi
      have HCUT := hd hcut
      have HCC := hd hcn
      clear hm hcut hcn
      obtain ⟨rn, hrn⟩ : ∃ rn, r.size = rn := ⟨_, rfl⟩
      have z0 : (0 : Int) ≤ (i : Int) := by omega
      have z1 : (i : Int) ≤ (rn : Int) := by omega
      have z2 : ¬ (i : Int) < 0 := by omega
      have z3 : IntKind.i64.wrap ((i : Int) + 1) = ((i + 1 : Nat) : Int) := by rw [wrap_small _ (by have := HR.out; have := HSZ.out; omega) (by have := HR.out; have := HSZ.out; omega)]; omega
      have z4 : wrap64 (i : Int) = (i : Int) := by have := HR.out; have := HSZ.out; unfold wrap64; omega
      have z5 : (0 : Int) ≤ ((i + 1 : Nat) : Int) := by omega
      have z6 : ((i + 1 : Nat) : Int) ≤ (rn : Int) := by omega
      have HRN := hd hrn
      clear hi
      go_wp2_with (go_at_call 56; refine (sindexS r i _ HM.out).mono ?_; rintro e w' ⟨rfl, rfl⟩)
      go_roundw
      case rel =>
        refine ⟨_, done ++ [r.extract 0 i], k + 1, rfl, by go_num, by rw [List.length_append, HL.out]; rfl, by have := HCC.out; rw [HRN.out] at this; have := HK.out; omega, by rw [ByteArray.size_extract]; have := HR.out; omega, ?_, below_setCell HBL.out _ _ (Nat.le_refl _), ?_⟩
        · have hb' := HB.out.set k (.string (r.extract 0 i))
          have hkN := HKN.out
          have h' := Lib.cellsOf_set hkN (r.extract 0 i)
          rw [HL.out] at h'
          rw [h'] at hb'
          exact hb'
        · have h' := HE.out
          rw [HCUT.out, HRN.out] at h'
          rw [List.append_assoc]
          exact h'
      case measure => have := HLZ.out; show cnt - (intOf (.int .i64 ((k : Int) + 1))).toNat < cnt - (intOf (.int .i64 (k : Int))).toNat; simp only [intOf]; omega
    · have hlz : ¬ (k : Int) < (cnt : Int) := by omega
      have HLZ := hd (show k = cnt by omega)
      have h0 : r.data.toList.count 32 = 0 := by omega
      have HE2 : Hid (done ++ [r] = ps) := hd (by rw [← HE.out, spl_end r 32 h0])
      clear hlt hk h0
      go_wp2_with fail
      go_ret
      exact SpA.mk HL.out HKN.out (by rw [HLZ.out]) HB.out HBL.out HE2.out

set_option maxHeartbeats 400000 in
theorem splitS (s : ByteArray) (w : World) (hs : s.size ≤ 140737488355328) (hc : s.data.toList.count 32 + 1 ≤ 17592186044416) :
    Calls Tryz.prog 26 #[.string s, .string ⟨#[32]⟩] w fun e w' => SpA w ((cutL 32 s.data.toList).map tB) e w' := by
  have H := hd fun w => gensS s w hs hc
  obtain ⟨ps, hps⟩ : ∃ ps, (cutL 32 s.data.toList).map tB = ps := ⟨_, rfl⟩
  rw [hps] at H ⊢
  clear hs hc hps
  go_enter Tryz.func26, Tryz.ntmps26
  go_wp2_with fail
  refine (H.out _).mono ?_
  rintro e w' ⟨v, rfl, ht, hk⟩
  have HT := hd ht
  have HK := hd hk
  obtain ⟨g, rfl, _⟩ := ht
  clear hk
  go_wp2_with fail
  go_ret
  exact ⟨_, rfl, HT.out, HK.out⟩

end Go.Proofs.YtcigbfjmnhogiaaGreatDoor
