/- Bytes of lists of attributes, both sides; two lists of attributes. -/
import Derived.Test.YteifaipbckhoiaaAw
import Derived.Maps.AppendAt
namespace Go.Proofs.Yteifaipbckhoiaa
open Go.RowKit
set_option linter.unusedVariables false

theorem okAs_at {xs : List AttrD} (h : okAs xs = true) {k : Nat} (hk : k < xs.length) : okA (xs[k]'hk) = true := (okAs_all h).2 _ (List.getElem_mem hk)
theorem asB_take_le {xs : List AttrD} (h : okAs xs = true) (hw : ∀ a ∈ xs, WfA a) (k : Nat) : (asB (xs.take k)).length ≤ 1600 := by
  have h1 := asB_le (xs := xs.take k) (fun a ha => ⟨(okAs_all h).2 a (List.mem_of_mem_take ha), hw a (List.mem_of_mem_take ha)⟩)
  have h2 := (okAs_all h).1
  have h3 : (xs.take k).length ≤ xs.length := by rw [List.length_take]; omega
  omega
theorem valB_byt {v : ValD} (h : okV v = true) : Byt (valB v) := by
  rw [valB_cont]
  have hk := okV_kind h
  refine (enc_byt _ (by omega) (by omega)).append ?_
  rcases okV_cases h with ⟨n, rfl, g0, g1⟩ | ⟨t, rfl, g0⟩ | rfl | rfl
  · rw [contB1]
    have := foldI_bd n g0 g1
    exact enc_byt _ this.1 (by omega)
  · rw [contB2]
    exact (enc_byt _ (by omega) (by omega)).append (bytesOf_byt _)
  · rw [contB3]
    exact enc_byt _ (by decide) (by decide)
  · rw [contB3]
    exact enc_byt _ (by decide) (by decide)
theorem attrB_byt {a : AttrD} (h : okA a = true) (hw : WfA a) : Byt (attrB a) := by
  have hp := okA_parts h
  have ho := okL_true hp.2.1
  have h1 := hw.1
  have h2 := hw.2
  unfold attrB
  exact (enc_byt _ (by omega) (by omega)).append ((bytesOf_byt _).append ((enc_byt _ ho.1 (by omega)).append ((enc_byt _ h1 (by omega)).append (valB_byt hp.2.2))))

set_option maxRecDepth 100000 in
set_option maxHeartbeats 1000000 in
theorem attrs_bad {w : World} {v : Value} {xs : List AttrD} (h : El encA 6 w v xs) (ho : okAs xs = false) : Calls Try.prog 56 #[v] w fun e w' => VEnd w (.tuple #[.slice none 0 0, .int .i64 80]) e w' := by
  have H := hd (listMay_any h)
  rw [ho] at H
  clear h ho
  go_enter Try.func56, Try.ntmps56
  go_wp2_with fail
  refine H.out.mono ?_
  rintro e w2 ⟨rfl, hk⟩
  have HK := hd hk
  clear hk
  go_wp2_with fail
  go_ret2
  exact VEnd.mk HK.out
set_option maxRecDepth 100000 in
set_option maxHeartbeats 1000000 in
theorem rattrs_bad {w : World} {v : Value} {xs : List AttrD} (h : El encA 6 w v xs) (ho : okAs xs = false) : Calls Try.prog 62 #[v] w fun e w' => VEnd w (.tuple #[.slice none 0 0, .int .i64 80]) e w' := by
  have H := hd (rlistMay_any h)
  rw [ho] at H
  clear h ho
  go_enter Try.func62, Try.ntmps62
  go_wp2_with fail
  refine H.out.mono ?_
  rintro e w2 ⟨rfl, hk⟩
  have HK := hd hk
  clear hk
  go_wp2_with fail
  go_ret2
  exact VEnd.mk HK.out

set_option maxRecDepth 100000 in
set_option maxHeartbeats 4000000 in
theorem attrs_ok {w : World} {v : Value} {xs : List AttrD} (h : El encA 6 w v xs) (ho : okAs xs = true) (hw : ∀ a ∈ xs, WfA a) : Calls Try.prog 56 #[v] w fun e w' => OwEnd w (listB xs) e w' := by
  obtain ⟨x0, cap, rfl⟩ := h.form
  have HM := hd (listMay_any h)
  rw [ho] at HM
  have H8 := (okAs_all ho).1
  have HL := hd h
  have HO := hd ho
  have HW := hd hw
  clear h ho hw
  unfold listB
  obtain ⟨n, hn⟩ : ∃ n, xs.length = n := ⟨_, rfl⟩
  rw [hn] at HL H8 HM ⊢
  have HN := hd hn
  have HU := hd (fun w => U_ow (n : Int) w (by omega) (by omega))
  have HS := hd (And.intro (Num.enc_length (n : Int)) (Num.sz_bd (n : Int) (by omega)))
  have HAL := hd H8
  clear hn H8
  obtain ⟨L0, hL0⟩ : ∃ L, Num.enc (n : Int) = L := ⟨_, rfl⟩
  rw [hL0] at HU HS ⊢
  clear hL0
  go_enter Try.func56, Try.ntmps56
  go_wp2_with fail
  refine HM.out.mono ?_
  rintro e w1 ⟨rfl, hk⟩
  have B1 := hd hk
  clear hk HM
  go_wp2_with fail
  refine (HU.out w1).mono ?_
  rintro e w2 ⟨a, cp, rfl, ho, hk⟩
  have B2 := hd (below_below B1.out hk)
  have O2 := hd (ho.lower B1.out.size)
  clear ho hk B1 HU
  generalize hl0 : L0.length = n0 at *
  have HL0 := hd hl0
  clear hl0
  go_wp2_with fail
  go_loopw [4, 7, 19] (fun o _ i wr => ∃ (k : Nat), k ≤ n ∧ i = .int .i64 (k : Int) ∧ Below w.heap.size w wr ∧ Ow w.heap.size wr o (L0 ++ asB (xs.take k))) (fun _ _ i _ => n - (intOf i).toNat)
  case atStart => exact ⟨0, Nat.zero_le _, rfl, B2.out, by rw [List.take_zero]; show Ow _ _ _ (L0 ++ []); rw [List.append_nil]; exact O2.out⟩
  case round =>
    obtain ⟨k, hkn, rfl, hb, hs⟩ := hrel
    have HB := hd hb
    have HO1 := hd hs
    clear hb hs B2 O2
    obtain ⟨oa, on, oc, hov⟩ : ∃ oa on oc, u4 = Value.slice oa on oc := by
      obtain ⟨a, c, h⟩ := HO1.out.len
      exact ⟨_, _, _, h⟩
    subst hov
    by_cases hlt : k < n
    · have hlz : (k : Int) < (n : Int) := by omega
      have hxk : k < xs.length := by rw [HN.out]; omega
      have HKN := hd hkn
      clear hkn
      obtain ⟨⟨s, x, p, kk, m, b⟩, he1⟩ : ∃ r : AttrD, xs[k]'(by omega) = r := ⟨_, rfl⟩
      obtain ⟨g, off, hx, hc, h47, c0, c1, c2, c3, c4, c5⟩ := HL.out.atA HB.out HN.out hlt he1
      subst hx
      have HOK : Hid (okA (s, x, p, kk, m, b) = true) := hd (by rw [← he1]; exact okAs_at HO.out hxk)
      have HWF : Hid (WfA (s, x, p, kk, m, b)) := hd (by rw [← he1]; exact HW.out _ (List.getElem_mem hxk))
      have HT : Hid (asB (xs.take (k + 1)) = asB (xs.take k) ++ attrB (s, x, p, kk, m, b)) := hd (by rw [← he1]; exact asB_take hxk)
      have HLE := hd (And.intro (asB_take_le HO.out HW.out k) (attrB_le HOK.out HWF.out))
      clear he1
      have HA : Hid (∀ w, Calls Try.prog 82 #[.agg #[Value.string s, Value.int IntKind.i64 x, Value.int IntKind.u32 p, Value.int IntKind.i64 kk, Value.int IntKind.i64 m, Value.string b]] w fun e w' => RowO w (attrB (s, x, p, kk, m, b)) e w') := hd (fun w => attr_any (s, x, p, kk, m, b) w HOK.out HWF.out)
      generalize attrB (s, x, p, kk, m, b) = L1 at *
      go_wp2_with fail
      have NB := below1 wr (Obj.cells #[Value.string s, Value.int IntKind.i64 x, Value.int IntKind.u32 p, Value.int IntKind.i64 kk, Value.int IntKind.i64 m, Value.string b] 54)
      have HB1 := hd (below_below HB.out NB)
      have HO2 := hd (HO1.out.keep NB)
      generalize wr.alloc (Obj.cells #[Value.string s, Value.int IntKind.i64 x, Value.int IntKind.u32 p, Value.int IntKind.i64 kk, Value.int IntKind.i64 m, Value.string b] 54) = W1 at *
      clear NB c0 c1 c2 c3 c4 c5 HB HO1
      refine (HA.out W1).mono ?_
      rintro e w5 ⟨a5, cap5, rfl, ho5, hk5⟩
      have HB2 := hd (below_below HB1.out hk5)
      obtain ⟨v', w6, hrun, ho6, hk6⟩ := append_ow (ty := 26) (HO2.out.keep hk5) ho5.all ho5.1 HB2.out.size (by
        have h1 := HLE.out
        have h2 := HS.out
        have h3 := HL0.out
        rw [List.length_append]
        omega)
      rw [List.append_assoc, ← HT.out] at ho6
      have HR := hd hrun
      have HO6 := hd ho6
      have HB6 := hd (HB2.out.trans hk6)
      clear ho5 hk5 hrun ho6 hk6 HB1 HB2 HO2
      go_wp2_with (at_builtin; refine wpList_append_run _ rfl _ _ _ _ rfl _ _ rfl rfl _ w6 HR.out ?_)
      go_roundw
      case rel => exact ⟨k + 1, by omega, by go_num, HB6.out, HO6.out⟩
      case measure => simp [intOf]; omega
    · have hnl : ¬ (k : Int) < (n : Int) := by omega
      have hkn' : k = n := by omega
      subst hkn'
      go_wp2_with fail
      go_ret2
      have ht : xs.take k = xs := by rw [List.take_of_length_le (by rw [HN.out]; exact Nat.le_refl _)]
      have ho := HO1.out
      rw [ht] at ho
      obtain ⟨a', c', he⟩ := ho.len
      injection he with e1 e2 e3
      subst e1 e2 e3
      exact ⟨oa, oc, rfl, ho, HB.out⟩

/-- An append onto a row of its own that leaves the rows from N to M alone. -/
theorem append_far {N M B : Nat} {w : World} {v x : Value} {ld l : List Int} (h : Ow B w v ld) (hx : Bs (fun b => N ≤ b ∧ b < M) w x l) (hB : B ≤ w.heap.size) (hM : M ≤ w.heap.size) (hf : ∀ k, v.ownBlock = some k → k < N ∨ M ≤ k) (hb : ld.length + l.length ≤ 140737488355328) (ty : TypeId) :
    ∃ v' w', (Builtin.append_ #[26, 26] ty #[v, x]).run Try.prog w = .ok v' w' ∧ Ow B w' v' (ld ++ l) ∧ Below B w w' ∧ Kp (fun b => ¬ (N ≤ b ∧ b < M)) w w' ∧ ∀ k, v'.ownBlock = some k → k < N ∨ M ≤ k := by
  obtain ⟨i, hi, hz, hs, hby⟩ := info5
  have hl : Byt l := hx.1
  have hxb : Bx w.heap.size w x l := Or.inl (hx.weaken (A' := fun b => b < w.heap.size) (fun b hb _ => hb))
  rcases hxb.openB with ⟨e1, e2⟩ | ⟨a, c, e1, hc⟩
  · subst e1; subst e2
    refine ⟨v, w, ?_, by rw [List.append_nil]; exact h, Below.refl _ _, Kp.refl _ _, hf⟩
    rcases h.2.2.2 with ⟨rfl, hn⟩ | ⟨g, cap, cur, rfl, _, hg, hcap, _⟩
    · simp [Builtin.append_, run_underlying Try.underlying26, sizeOf, typeInfo, hi, Builtin.lenOf, Builtin.firstCells]
    · exact append_none (P := Try.prog) Try.underlying26 hi hs g 0 ld.length cap (Src.ofNil (P := Try.prog) w Try.underlying26 0) hcap
  · subst e1
    obtain ⟨v', w', hr, ho, hg, _, hw⟩ := run_append_own_at (P := Try.prog) w B 26 ty 5 i (.int .u8 0) 1 1 Try.underlying26 hi hz hs hby rfl (by omega) v ld.length (ld.map (Value.int .u8)) h.2.2 a l.length c (l.map (Value.int .u8)) (by simp) hc
      (fun u hu => by obtain ⟨_, _, rfl⟩ := List.mem_map.1 hu; rfl) (by simp only [maxLen]; omega) (by omega) hB
    refine ⟨v', w', hr, ⟨h.1.append hl, by simpa using hb, ?_⟩, below_grown hg hB (fun k hk => (h.2.2.lt k hk).1), ?_, ?_⟩
    · rw [List.length_append, List.map_append]
      exact ho
    · exact ⟨hg.os, hg.tape, hg.output, hg.size, fun k hk hs => hg.block k hk (fun e => hs (fun hh => by have := hf k e.symm; omega))⟩
    · intro k hk
      rcases hw with hw | hw
      · exact hf k (hw ▸ hk)
      · rw [hw] at hk
        injection hk with hk
        right
        omega

set_option maxRecDepth 100000 in
set_option maxHeartbeats 4000000 in
theorem rattrs_ok {w : World} {v : Value} {xs : List AttrD} (h : El encA 6 w v xs) (ho : okAs xs = true) (hw : ∀ a ∈ xs, WfA a) : Calls Try.prog 62 #[v] w fun e w' => OwEnd w (listB xs) e w' := by
  obtain ⟨x0, cap, rfl⟩ := h.form
  have HM := hd (rlistMay_any h)
  rw [ho] at HM
  have H8 := (okAs_all ho).1
  have HL := hd h
  have HO := hd ho
  have HW := hd hw
  clear h ho hw
  unfold listB
  obtain ⟨n, hn⟩ : ∃ n, xs.length = n := ⟨_, rfl⟩
  rw [hn] at HL H8 HM ⊢
  have HN := hd hn
  have HU := hd (fun w => rU_ow (n : Int) w (by omega) (by omega))
  have HS := hd (And.intro (Num.enc_length (n : Int)) (Num.sz_bd (n : Int) (by omega)))
  have HAL := hd H8
  clear hn H8
  obtain ⟨L0, hL0⟩ : ∃ L, Num.enc (n : Int) = L := ⟨_, rfl⟩
  rw [hL0] at HU HS ⊢
  clear hL0
  go_enter Try.func62, Try.ntmps62
  go_wp2_with fail
  refine HM.out.mono ?_
  rintro e w1 ⟨rfl, hk⟩
  have B1 := hd hk
  clear hk HM
  go_wp2_with fail
  refine (HU.out w1).mono ?_
  rintro e w2 ⟨a, cp, rfl, ho, hk⟩
  have B2 := hd (below_below B1.out hk)
  have O2 := hd (ho.lower B1.out.size)
  clear ho hk B1 HU
  generalize hl0 : L0.length = n0 at *
  have HL0 := hd hl0
  clear hl0
  go_wp2_with fail
  go_loopw [4, 6, 7, 8, 9, 10, 11, 12] (fun o i _ _ _ _ _ _ wr => ∃ (k : Nat), k ≤ n ∧ i = .int .i64 (k : Int) ∧ Below w.heap.size w wr ∧ Ow w.heap.size wr o (L0 ++ asB (xs.take k))) (fun _ i _ _ _ _ _ _ _ => n - (intOf i).toNat)
  case atStart => exact ⟨0, Nat.zero_le _, rfl, B2.out, by rw [List.take_zero]; show Ow _ _ _ (L0 ++ []); rw [List.append_nil]; exact O2.out⟩
  case round =>
    obtain ⟨k, hkn, rfl, hb, hs⟩ := hrel
    have HB := hd hb
    have HO1 := hd hs
    clear hb hs B2 O2
    obtain ⟨oa, on, oc, hov⟩ : ∃ oa on oc, u4 = Value.slice oa on oc := by
      obtain ⟨a, c, h⟩ := HO1.out.len
      exact ⟨_, _, _, h⟩
    subst hov
    by_cases hlt : k < n
    · have hlz : (k : Int) < (n : Int) := by omega
      have hxk : k < xs.length := by rw [HN.out]; omega
      have HKN := hd hkn
      clear hkn
      obtain ⟨⟨s, x, p, kk, m, b⟩, he1⟩ : ∃ r : AttrD, xs[k]'(by omega) = r := ⟨_, rfl⟩
      obtain ⟨g, off, hx, hc, h47, c0, c1, c2, c3, c4, c5⟩ := HL.out.atA HB.out HN.out hlt he1
      subst hx
      have HOK : Hid (okA (s, x, p, kk, m, b) = true) := hd (by rw [← he1]; exact okAs_at HO.out hxk)
      have HWF : Hid (WfA (s, x, p, kk, m, b)) := hd (by rw [← he1]; exact HW.out _ (List.getElem_mem hxk))
      have HT : Hid (asB (xs.take (k + 1)) = asB (xs.take k) ++ attrB (s, x, p, kk, m, b)) := hd (by rw [← he1]; exact asB_take hxk)
      have HLE := hd (And.intro (asB_take_le HO.out HW.out k) (attrB_le HOK.out HWF.out))
      clear he1
      have hp := okA_parts HOK.out
      have hl := okL_true hp.2.1
      have ht := attrB_parts (s, x, p, kk, m, b)
      simp only at hp hl ht
      have HT2 : Hid (asB (xs.take (k + 1)) = asB (xs.take k) ++ ((Num.enc s.size ++ bytesOf s) ++ (Num.enc x ++ Num.enc p) ++ valB (kk, m, b))) := hd (by rw [HT.out, ht]; rfl)
      have HLL : Hid ((Num.enc s.size ++ bytesOf s).length + (Num.enc x ++ Num.enc p).length + (valB (kk, m, b)).length ≤ 200) := hd (by
        have h1 := HLE.out.2.2
        rw [ht, ← valB_cont (kk, m, b), List.length_append, List.length_append] at h1
        exact h1)
      have H1 : Hid (∀ w, Calls Try.prog 61 #[.string s] w fun e w' => MadeEnd w (Num.enc s.size ++ bytesOf s) e w') := hd (fun w => rText_ok s w (by omega))
      have H2 : Hid (∀ w, Calls Try.prog 86 #[.agg #[.int .i64 x, .int .u32 p]] w fun e w' => OwEnd w (Num.enc x ++ Num.enc p) e w') := hd (fun w => rbytes_ok x p w hp.2.1 HWF.out)
      have H3 : Hid (∀ w, Calls Try.prog 87 #[.agg #[.int .i64 kk, .int .i64 m, .string b]] w fun e w' => BEnd w (valB (kk, m, b)) 0 e w') := hd (fun w => by
        have h := rvbytes_any (kk, m, b) w
        rw [hp.2.2] at h
        exact h)
      clear hp hl ht HT
      generalize Num.enc s.size ++ bytesOf s = L1 at *
      generalize Num.enc x ++ Num.enc p = L2 at *
      generalize valB (kk, m, b) = L3 at *
      obtain ⟨n1, hn1⟩ : ∃ n, L1.length = n := ⟨_, rfl⟩
      obtain ⟨n2, hn2⟩ : ∃ n, L2.length = n := ⟨_, rfl⟩
      have HN1 := hd hn1
      have HN2 := hd hn2
      clear hn1 hn2
      go_wp2_with fail
      refine (H1.out wr).mono ?_
      rintro e w5 ⟨a5, cap5, rfl, ho5, hk5⟩
      rw [HN1.out] at ho5 ⊢
      have HB1 := hd (below_below HB.out hk5)
      have HO2 := hd (HO1.out.keep hk5)
      have HF : Hid (∀ j, (Value.slice oa on oc).ownBlock = some j → j < wr.heap.size) := hd (fun j hj => (HO1.out.2.2.lt j hj).2)
      have X1 := hd (ho5.weaken (A' := fun b => wr.heap.size ≤ b ∧ b < w5.heap.size) (fun b hb h => ⟨h, hb⟩))
      have K5 := hd hk5
      have e3 := (below_cell hk5 (World.block_lt_of_cell? wr _ c1)).trans c1
      have e4 := (below_cell hk5 (World.block_lt_of_cell? wr _ c2)).trans c2
      have e5 := (below_cell hk5 (World.block_lt_of_cell? wr _ c3)).trans c3
      have e6 := (below_cell hk5 (World.block_lt_of_cell? wr _ c4)).trans c4
      have e7 := (below_cell hk5 (World.block_lt_of_cell? wr _ c5)).trans c5
      clear ho5 hk5 c0 c1 c2 c3 c4 c5 HB HO1
      go_wp2_with fail
      refine (H2.out w5).mono ?_
      rintro e w7 ⟨a7, cap7, rfl, ho5, hk5⟩
      rw [HN2.out] at ho5 ⊢
      have HB2 := hd (below_below HB1.out hk5)
      have HO3 := hd (HO2.out.keep hk5)
      have X2 := hd (ho5.bs.weaken (A' := fun b => wr.heap.size ≤ b ∧ b < w7.heap.size) (fun b hb h => ⟨Nat.le_trans K5.out.size h, hb⟩))
      have X1b := hd (X1.out.keepB hk5)
      have K7 := hd hk5
      have f5 := (below_cell hk5 (World.block_lt_of_cell? w5 _ e5)).trans e5
      have f6 := (below_cell hk5 (World.block_lt_of_cell? w5 _ e6)).trans e6
      have f7 := (below_cell hk5 (World.block_lt_of_cell? w5 _ e7)).trans e7
      clear ho5 hk5 e3 e4 e5 e6 e7 HB1 HO2 X1
      go_wp2_with fail
      refine (H3.out w7).mono ?_
      rintro e w8 ⟨a8, n8, cap8, rfl, hn8, ho5, hk5⟩
      have HB3 := hd (below_below HB2.out hk5)
      have HO4 := hd (HO3.out.keep hk5)
      have sz5 := K5.out.size
      have sz7 := K7.out.size
      have sz8 := hk5.size
      have X3 := hd (ho5.bs.weaken (A' := fun b => wr.heap.size ≤ b ∧ b < w8.heap.size) (fun b hb h => ⟨by omega, hb⟩))
      have X2b := hd ((X2.out.keepB hk5).weaken (A' := fun b => wr.heap.size ≤ b ∧ b < w8.heap.size) (fun b hb h => ⟨h.1, by omega⟩))
      have X1c := hd ((X1b.out.keepB hk5).weaken (A' := fun b => wr.heap.size ≤ b ∧ b < w8.heap.size) (fun b hb h => ⟨h.1, by omega⟩))
      clear ho5 hk5 f5 f6 f7 HB2 HO3 X2 X1b K5 K7 sz5 sz7 sz8
      have hbig : L0.length + (asB (xs.take k)).length + 200 ≤ 140737488355328 := by
        have h1 := HLE.out
        have h2 := HS.out
        have h3 := HL0.out
        omega
      have hlen := HLL.out
      obtain ⟨v1, w9, r1, o1, s1, k1, g1⟩ := append_far (ty := 26) HO4.out X1c.out HB3.out.size (Nat.le_refl _) (fun j hj => Or.inl (HF.out j hj)) (by simp only [List.length_append]; omega)
      obtain ⟨v2, w10, r2, o2, s2, k2, g2⟩ := append_far (ty := 26) o1 (X2b.out.keep k1 (fun b hb h => fun hh => hh h)) (Nat.le_trans HB3.out.size s1.size) s1.size g1 (by simp only [List.length_append]; omega)
      obtain ⟨v3, w11, r3, o3, s3, k3, g3⟩ := append_far (ty := 26) o2 ((X3.out.keep k1 (fun b hb h => fun hh => hh h)).keep k2 (fun b hb h => fun hh => hh h)) (Nat.le_trans HB3.out.size (Nat.le_trans s1.size s2.size)) (Nat.le_trans s1.size s2.size) g2 (by simp only [List.length_append]; omega)
      have HB6 := hd (((HB3.out.trans s1).trans s2).trans s3)
      have HO6 : Hid (Ow w.heap.size w11 v3 (L0 ++ asB (xs.take (k + 1)))) := hd (by
        rw [HT2.out]
        simpa only [List.append_assoc] using o3)
      have R1 := hd r1; have R2 := hd r2; have R3 := hd r3
      clear r1 r2 r3 o1 o2 o3 s1 s2 s3 k1 k2 k3 g1 g2 g3 hbig hlen HO4 HB3 X1c X2b X3 HF
      go_wp2_with (at_builtin; first | refine wpList_append_run _ rfl _ _ _ _ rfl _ _ rfl rfl v1 w9 R1.out ?_ | refine wpList_append_run _ rfl _ _ _ _ rfl _ _ rfl rfl v2 w10 R2.out ?_ | refine wpList_append_run _ rfl _ _ _ _ rfl _ _ rfl rfl v3 w11 R3.out ?_)
      go_roundw
      case rel => exact ⟨k + 1, by omega, by go_num, HB6.out, HO6.out⟩
      case measure => simp [intOf]; omega
    · have hnl : ¬ (k : Int) < (n : Int) := by omega
      have hkn' : k = n := by omega
      subst hkn'
      go_wp2_with fail
      go_ret2
      have ht : xs.take k = xs := by rw [List.take_of_length_le (by rw [HN.out]; exact Nat.le_refl _)]
      have ho := HO1.out
      rw [ht] at ho
      obtain ⟨a', c', he⟩ := ho.len
      injection he with e1 e2 e3
      subst e1 e2 e3
      exact ⟨oa, oc, rfl, ho, HB.out⟩


theorem rattrs_any {w : World} {v : Value} {xs : List AttrD} (h : El encA 6 w v xs) (hw : ∀ a ∈ xs, WfA a) : Calls Try.prog 62 #[v] w fun e w' => BEnd w (if okAs xs then listB xs else []) (if okAs xs then 0 else 80) e w' := by
  cases ho : okAs xs
  · refine (rattrs_bad h ho).mono ?_
    rintro e w' ⟨rfl, hk⟩
    exact ⟨none, 0, 0, rfl, rfl, ⟨Byt.nil, Nat.zero_le _, World.ownsRow_nil w' _ 5 1⟩, hk⟩
  · refine (rattrs_ok h ho hw).mono ?_
    rintro e w' ⟨a, cap, rfl, h, hk⟩
    exact ⟨a, _, cap, rfl, rfl, h, hk⟩

theorem attrs_any {w : World} {v : Value} {xs : List AttrD} (h : El encA 6 w v xs) (hw : ∀ a ∈ xs, WfA a) : Calls Try.prog 56 #[v] w fun e w' => BEnd w (if okAs xs then listB xs else []) (if okAs xs then 0 else 80) e w' := by
  cases ho : okAs xs
  · refine (attrs_bad h ho).mono ?_
    rintro e w' ⟨rfl, hk⟩
    exact ⟨none, 0, 0, rfl, rfl, ⟨Byt.nil, Nat.zero_le _, World.ownsRow_nil w' _ 5 1⟩, hk⟩
  · refine (attrs_ok h ho hw).mono ?_
    rintro e w' ⟨a, cap, rfl, h, hk⟩
    exact ⟨a, _, cap, rfl, rfl, h, hk⟩

end Go.Proofs.Yteifaipbckhoiaa
