/- Bytes of lists of attributes, both sides; two lists of attributes. -/
import Derived.Test.YteifaipbckhoiabAw
import Derived.Maps.AppendAt
namespace Go.Proofs.Yteifaipbckhoiab
open Go.RowKit
set_option linter.unusedVariables false

theorem okAs_at {xs : List AttrD} (h : okAs xs = true) {k : Nat} (hk : k < xs.length) : okA (xs[k]'hk) = true := (okAs_all h).2 _ (List.getElem_mem hk)
theorem asB_take_le {xs : List AttrD} (h : okAs xs = true) (hw : ∀ a ∈ xs, WfA a) (k : Nat) : (asB (xs.take k)).length ≤ 1600 := by
  have h1 := asB_le (xs := xs.take k) (fun a ha => ⟨(okAs_all h).2 a (List.mem_of_mem_take ha), hw a (List.mem_of_mem_take ha)⟩)
  have h2 := (okAs_all h).1
  have h3 : (xs.take k).length ≤ xs.length := by rw [List.length_take]; omega
  omega
theorem valB_byt {v : ValD} (h : okV v = true) : Byt (valB v) := by
  rw [valB_cont]
  have hk := okV_kind h
  refine (enc_byt _ (by omega) (by omega)).append ?_
  rcases okV_cases h with ⟨n, rfl, g0, g1⟩ | ⟨t, rfl, g0⟩ | rfl | rfl
  · rw [contB1]
    have := foldI_bd n g0 g1
    exact enc_byt _ this.1 (by omega)
  · rw [contB2]
    exact (enc_byt _ (by omega) (by omega)).append (bytesOf_byt _)
  · rw [contB3]
    exact enc_byt _ (by decide) (by decide)
  · rw [contB3]
    exact enc_byt _ (by decide) (by decide)
theorem attrB_byt {a : AttrD} (h : okA a = true) (hw : WfA a) : Byt (attrB a) := by
  have hp := okA_parts h
  have ho := okL_true hp.2.1
  have h1 := hw.1
  have h2 := hw.2
  unfold attrB
  exact (enc_byt _ (by omega) (by omega)).append ((bytesOf_byt _).append ((enc_byt _ ho.1 (by omega)).append ((enc_byt _ h1 (by omega)).append (valB_byt hp.2.2))))

set_option maxRecDepth 100000 in
set_option maxHeartbeats 1000000 in
theorem attrs_bad {w : World} {v : Value} {xs : List AttrD} (h : El encA 6 w v xs) (ho : okAs xs = false) : Calls Try.prog 34 #[v] w fun e w' => VEnd w (.tuple #[.slice none 0 0, .int .i64 80]) e w' := by
  have H := hd (listMay_any h)
  rw [ho] at H
  clear h ho
  go_enter Try.func34, Try.ntmps34
  go_wp2_with fail
  refine H.out.mono ?_
  rintro e w2 ⟨rfl, hk⟩
  have HK := hd hk
  clear hk
  go_wp2_with fail
  go_ret2
  exact VEnd.mk HK.out
set_option maxRecDepth 100000 in
set_option maxHeartbeats 4000000 in
theorem attrs_ok {w : World} {v : Value} {xs : List AttrD} (h : El encA 6 w v xs) (ho : okAs xs = true) (hw : ∀ a ∈ xs, WfA a) : Calls Try.prog 34 #[v] w fun e w' => OwEnd w (listB xs) e w' := by
  obtain ⟨x0, cap, rfl⟩ := h.form
  have HM := hd (listMay_any h)
  rw [ho] at HM
  have H8 := (okAs_all ho).1
  have HL := hd h
  have HO := hd ho
  have HW := hd hw
  clear h ho hw
  unfold listB
  obtain ⟨n, hn⟩ : ∃ n, xs.length = n := ⟨_, rfl⟩
  rw [hn] at HL H8 HM ⊢
  have HN := hd hn
  have HU := hd (fun w => U_ow (n : Int) w (by omega) (by omega))
  have HS := hd (And.intro (Num.enc_length (n : Int)) (Num.sz_bd (n : Int) (by omega)))
  have HAL := hd H8
  clear hn H8
  obtain ⟨L0, hL0⟩ : ∃ L, Num.enc (n : Int) = L := ⟨_, rfl⟩
  rw [hL0] at HU HS ⊢
  clear hL0
  go_enter Try.func34, Try.ntmps34
  go_wp2_with fail
  refine HM.out.mono ?_
  rintro e w1 ⟨rfl, hk⟩
  have B1 := hd hk
  clear hk HM
  go_wp2_with fail
  refine (HU.out w1).mono ?_
  rintro e w2 ⟨a, cp, rfl, ho, hk⟩
  have B2 := hd (below_below B1.out hk)
  have O2 := hd (ho.lower B1.out.size)
  clear ho hk B1 HU
  generalize hl0 : L0.length = n0 at *
  have HL0 := hd hl0
  clear hl0
  go_wp2_with fail
  go_loopw [4, 7, 19] (fun o _ i wr => ∃ (k : Nat), k ≤ n ∧ i = .int .i64 (k : Int) ∧ Below w.heap.size w wr ∧ Ow w.heap.size wr o (L0 ++ asB (xs.take k))) (fun _ _ i _ => n - (intOf i).toNat)
  case atStart => exact ⟨0, Nat.zero_le _, rfl, B2.out, by rw [List.take_zero]; show Ow _ _ _ (L0 ++ []); rw [List.append_nil]; exact O2.out⟩
  case round =>
    obtain ⟨k, hkn, rfl, hb, hs⟩ := hrel
    have HB := hd hb
    have HO1 := hd hs
    clear hb hs B2 O2
    obtain ⟨oa, on, oc, hov⟩ : ∃ oa on oc, u4 = Value.slice oa on oc := by
      obtain ⟨a, c, h⟩ := HO1.out.len
      exact ⟨_, _, _, h⟩
    subst hov
    by_cases hlt : k < n
    · have hlz : (k : Int) < (n : Int) := by omega
      have hxk : k < xs.length := by rw [HN.out]; omega
      have HKN := hd hkn
      clear hkn
      obtain ⟨⟨s, x, p, kk, m, b⟩, he1⟩ : ∃ r : AttrD, xs[k]'(by omega) = r := ⟨_, rfl⟩
      obtain ⟨g, off, hx, hc, h47, c0, c1, c2, c3, c4, c5⟩ := HL.out.atA HB.out HN.out hlt he1
      subst hx
      have HOK : Hid (okA (s, x, p, kk, m, b) = true) := hd (by rw [← he1]; exact okAs_at HO.out hxk)
      have HWF : Hid (WfA (s, x, p, kk, m, b)) := hd (by rw [← he1]; exact HW.out _ (List.getElem_mem hxk))
      have HT : Hid (asB (xs.take (k + 1)) = asB (xs.take k) ++ attrB (s, x, p, kk, m, b)) := hd (by rw [← he1]; exact asB_take hxk)
      have HLE := hd (And.intro (asB_take_le HO.out HW.out k) (attrB_le HOK.out HWF.out))
      clear he1
      have HA : Hid (∀ w, Calls Try.prog 51 #[.agg #[Value.string s, Value.int IntKind.i64 x, Value.int IntKind.u32 p, Value.int IntKind.i64 kk, Value.int IntKind.i64 m, Value.string b]] w fun e w' => RowO w (attrB (s, x, p, kk, m, b)) e w') := hd (fun w => attr_any (s, x, p, kk, m, b) w HOK.out HWF.out)
      generalize attrB (s, x, p, kk, m, b) = L1 at *
      go_wp2_with fail
      have NB := below1 wr (Obj.cells #[Value.string s, Value.int IntKind.i64 x, Value.int IntKind.u32 p, Value.int IntKind.i64 kk, Value.int IntKind.i64 m, Value.string b] 44)
      have HB1 := hd (below_below HB.out NB)
      have HO2 := hd (HO1.out.keep NB)
      generalize wr.alloc (Obj.cells #[Value.string s, Value.int IntKind.i64 x, Value.int IntKind.u32 p, Value.int IntKind.i64 kk, Value.int IntKind.i64 m, Value.string b] 44) = W1 at *
      clear NB c0 c1 c2 c3 c4 c5 HB HO1
      refine (HA.out W1).mono ?_
      rintro e w5 ⟨a5, cap5, rfl, ho5, hk5⟩
      have HB2 := hd (below_below HB1.out hk5)
      obtain ⟨v', w6, hrun, ho6, hk6⟩ := append_ow (ty := 27) (HO2.out.keep hk5) ho5.all ho5.1 HB2.out.size (by
        have h1 := HLE.out
        have h2 := HS.out
        have h3 := HL0.out
        rw [List.length_append]
        omega)
      rw [List.append_assoc, ← HT.out] at ho6
      have HR := hd hrun
      have HO6 := hd ho6
      have HB6 := hd (HB2.out.trans hk6)
      clear ho5 hk5 hrun ho6 hk6 HB1 HB2 HO2
      go_wp2_with (at_builtin; refine wpList_append_run _ rfl _ _ _ _ rfl _ _ rfl rfl _ w6 HR.out ?_)
      go_roundw
      case rel => exact ⟨k + 1, by omega, by go_num, HB6.out, HO6.out⟩
      case measure => simp [intOf]; omega
    · have hnl : ¬ (k : Int) < (n : Int) := by omega
      have hkn' : k = n := by omega
      subst hkn'
      go_wp2_with fail
      go_ret2
      have ht : xs.take k = xs := by rw [List.take_of_length_le (by rw [HN.out]; exact Nat.le_refl _)]
      have ho := HO1.out
      rw [ht] at ho
      obtain ⟨a', c', he⟩ := ho.len
      injection he with e1 e2 e3
      subst e1 e2 e3
      exact ⟨oa, oc, rfl, ho, HB.out⟩

/-- An append onto a row of its own that leaves the rows from N to M alone. -/
theorem append_far {N M B : Nat} {w : World} {v x : Value} {ld l : List Int} (h : Ow B w v ld) (hx : Bs (fun b => N ≤ b ∧ b < M) w x l) (hB : B ≤ w.heap.size) (hM : M ≤ w.heap.size) (hf : ∀ k, v.ownBlock = some k → k < N ∨ M ≤ k) (hb : ld.length + l.length ≤ 140737488355328) (ty : TypeId) :
    ∃ v' w', (Builtin.append_ #[27, 27] ty #[v, x]).run Try.prog w = .ok v' w' ∧ Ow B w' v' (ld ++ l) ∧ Below B w w' ∧ Kp (fun b => ¬ (N ≤ b ∧ b < M)) w w' ∧ ∀ k, v'.ownBlock = some k → k < N ∨ M ≤ k := by
  obtain ⟨i, hi, hz, hs, hby⟩ := info5
  have hl : Byt l := hx.1
  have hxb : Bx w.heap.size w x l := Or.inl (hx.weaken (A' := fun b => b < w.heap.size) (fun b hb _ => hb))
  rcases hxb.openB with ⟨e1, e2⟩ | ⟨a, c, e1, hc⟩
  · subst e1; subst e2
    refine ⟨v, w, ?_, by rw [List.append_nil]; exact h, Below.refl _ _, Kp.refl _ _, hf⟩
    rcases h.2.2.2 with ⟨rfl, hn⟩ | ⟨g, cap, cur, rfl, _, hg, hcap, _⟩
    · simp [Builtin.append_, run_underlying Try.underlying27, sizeOf, typeInfo, hi, Builtin.lenOf, Builtin.firstCells]
    · exact append_none (P := Try.prog) Try.underlying27 hi hs g 0 ld.length cap (Src.ofNil (P := Try.prog) w Try.underlying27 0) hcap
  · subst e1
    obtain ⟨v', w', hr, ho, hg, _, hw⟩ := run_append_own_at (P := Try.prog) w B 27 ty 5 i (.int .u8 0) 1 1 Try.underlying27 hi hz hs hby rfl (by omega) v ld.length (ld.map (Value.int .u8)) h.2.2 a l.length c (l.map (Value.int .u8)) (by simp) hc
      (fun u hu => by obtain ⟨_, _, rfl⟩ := List.mem_map.1 hu; rfl) (by simp only [maxLen]; omega) (by omega) hB
    refine ⟨v', w', hr, ⟨h.1.append hl, by simpa using hb, ?_⟩, below_grown hg hB (fun k hk => (h.2.2.lt k hk).1), ?_, ?_⟩
    · rw [List.length_append, List.map_append]
      exact ho
    · exact ⟨hg.os, hg.tape, hg.output, hg.size, fun k hk hs => hg.block k hk (fun e => hs (fun hh => by have := hf k e.symm; omega))⟩
    · intro k hk
      rcases hw with hw | hw
      · exact hf k (hw ▸ hk)
      · rw [hw] at hk
        injection hk with hk
        right
        omega

theorem attrs_any {w : World} {v : Value} {xs : List AttrD} (h : El encA 6 w v xs) (hw : ∀ a ∈ xs, WfA a) : Calls Try.prog 34 #[v] w fun e w' => BEnd w (if okAs xs then listB xs else []) (if okAs xs then 0 else 80) e w' := by
  cases ho : okAs xs
  · refine (attrs_bad h ho).mono ?_
    rintro e w' ⟨rfl, hk⟩
    exact ⟨none, 0, 0, rfl, rfl, ⟨Byt.nil, Nat.zero_le _, World.ownsRow_nil w' _ 5 1⟩, hk⟩
  · refine (attrs_ok h ho hw).mono ?_
    rintro e w' ⟨a, cap, rfl, h, hk⟩
    exact ⟨a, _, cap, rfl, rfl, h, hk⟩

end Go.Proofs.Yteifaipbckhoiab
