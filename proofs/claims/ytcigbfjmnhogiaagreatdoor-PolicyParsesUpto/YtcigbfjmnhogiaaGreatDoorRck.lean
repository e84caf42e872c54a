/- The document's Check. -/
import Derived.Test.YtcigbfjmnhogiaaGreatDoorCk
namespace Go.Proofs.YtcigbfjmnhogiaaGreatDoor
open Go.RowKit
set_option linter.unusedVariables false

/-- The rows so far may be. -/
theorem all_take {α : Type} [Inhabited α] {p : α → Bool} {xs : List α} (h : ∀ t, t < xs.length → p xs[t]! = true) : xs.all p = true := by
  rw [List.all_eq_true]
  intro r hr
  obtain ⟨t, ht, rfl⟩ := List.getElem_of_mem hr
  have := h t ht
  rw [getElem!_pos xs t ht] at this
  exact this
theorem all_not {α : Type} {p : α → Bool} {xs : List α} {t : Nat} (ht : t < xs.length) (h : p xs[t] = false) : xs.all p = false := by
  rw [List.all_eq_false]
  exact ⟨xs[t], List.getElem_mem ht, by rw [h]; simp⟩
theorem bl_leq (a b : ByteArray) (q : Bool) (h : lts b a = q) : (Op.bytesLess a.toList b.toList || a.toList == b.toList) = !q := by
  rw [ByteArray.toList_eq, ByteArray.toList_eq]
  subst h
  cases hl : lts b a
  · cases hk : lts a b
    · have e := lts_tot hk hl
      subst e
      simp
    · unfold lts at hk
      rw [hk]
      rfl
  · have h1 := lts_asym hl
    unfold lts at h1
    rw [h1, Bool.false_or, Bool.not_true, beq_eq_false_iff_ne]
    intro e
    exact lts_ne hl (ba_ext e).symm

set_option maxRecDepth 100000 in
set_option maxHeartbeats 8000000 in
theorem rcheck_pol {w : World} {u v : Value} {rs : List RuleD} {qs : List ReaderD} (hr : El encR 3 w u rs) (hq : El encQ 5 w v qs) :
    Calls Tryz.prog 17 #[.agg #[u, v]] w fun e w' => VEnd w (.int .i64 (ckI (okPol rs qs))) e w' := by
  obtain ⟨x0, capr, rfl⟩ := hr.form
  obtain ⟨y0, capq, rfl⟩ := hq.form
  obtain ⟨c, hc⟩ : ∃ c, ckI (okPol rs qs) = c := ⟨_, rfl⟩
  rw [hc]
  have HC := hd hc
  clear hc
  have HR := hd hr
  have HQ := hd hq
  have H47r := hr.len
  have H47q := hq.len
  clear hr hq
  obtain ⟨n, hn⟩ : ∃ n, rs.length = n := ⟨_, rfl⟩
  obtain ⟨m, hm⟩ : ∃ m, qs.length = m := ⟨_, rfl⟩
  rw [hn] at HR H47r ⊢
  rw [hm] at HQ H47q ⊢
  have HN := hd hn
  have HM := hd hm
  clear hn hm
  by_cases h1 : n ≤ 64
  · have h1z : ¬ (64 : Int) < (n : Int) := by omega
    by_cases h2 : m ≤ 16
    · have h2z : ¬ (16 : Int) < (m : Int) := by omega
      have H1 : Hid (decide (rs.length ≤ 64) = true ∧ decide (qs.length ≤ 16) = true) := hd ⟨decide_eq_true (by rw [HN.out]; exact h1), decide_eq_true (by rw [HM.out]; exact h2)⟩
      go_enter Tryz.func17, Tryz.ntmps17
      go_wp2_with fail
      have A1 := Bk.new w 25 #[Value.slice x0 n capr, Value.slice y0 m capq]
      have B1 := below1 w (Obj.cells #[Value.slice x0 n capr, Value.slice y0 m capq] 25)
      generalize w.alloc (Obj.cells #[Value.slice x0 n capr, Value.slice y0 m capq] 25) = w1 at *
      have c0 := A1.cell 0
      have c1 := A1.cell 1
      simp at c0 c1
      have A := hd A1
      have B := hd B1
      clear A1 B1
      clear h1z h2z c0 c1
      go_loopw [3] (fun i wr => ∃ k : Nat, k ≤ n ∧ i = .int .i64 (k : Int) ∧ Below w.heap.size w wr ∧ Bk wr w.heap.size 25 #[Value.slice x0 n capr, Value.slice y0 m capq] ∧ (∀ t, t < k → okRule (rs[t]!) = true) ∧ ∀ t, t + 1 < k → lts (rs[t]!).1 (rs[t + 1]!).1 = true) (fun i _ => n - (intOf i).toNat)
      case atStart => exact ⟨0, Nat.zero_le _, rfl, B.out, A.out, fun t ht => absurd ht (Nat.not_lt_zero t), fun t ht => absurd ht (Nat.not_lt_zero _)⟩
      case round =>
        obtain ⟨k, hkn, rfl, hb, hbk, ha, hri⟩ := hrel
        have HA := hd ha
        have HI := hd hri
        have HB := hd hb
        have HK := hd hbk
        clear ha hb hbk hri A B
        have d0 := HK.out.cell 0
        have d1 := HK.out.cell 1
        simp at d0 d1
        by_cases hlt : k < n
        · have hlz : (k : Int) < (n : Int) := by omega
          have hxk : k < rs.length := by rw [HN.out]; omega
          obtain ⟨⟨s1, x1, p1⟩, he1⟩ : ∃ r : RuleD, rs[k]'(by omega) = r := ⟨_, rfl⟩
          obtain ⟨g, off, hx, hc, h47, c10, c11, c12⟩ := HR.out.atR HB.out HN.out hlt he1
          subst hx
          have HE1 := hd he1
          clear he1
          obtain ⟨q, hq⟩ : ∃ q, okRule (s1, x1, p1) = q := ⟨_, rfl⟩
          have HB1 := hd hq
          have HM1 : Hid (∀ w, Calls Tryz.prog 46 #[(.agg #[.string s1, .int .i64 x1, .int .u32 p1])] w fun e w' => VEnd w (.bool q) e w') := hd fun w => by
            have h := mayRule_any s1 x1 p1 w
            rw [hq] at h
            exact h
          clear hq
          go_wp2_with fail
          have c0 := d0
          have c1 := d1
          have D0 := hd d0
          have D1 := hd d1
          clear d0 d1
          have d0 := Ltr.cell c0
          have d1 := Ltr.cell c1
          have c10 := Ltr.cell c10
          have c11 := Ltr.cell c11
          have c12 := Ltr.cell c12
          have hany := Ltr.any wr
          clear c0 c1
          cases q
          · 
            refine wp_region_later (by kernel_rfl) (by kernel_rfl) ?_
            repeat (go_big_quiet_step (first | (go_at_call 46; exact later_of (HM1.out _)) | fail))
            refine wpQuiet_nil ?_
            rintro _ ⟨s, rfl⟩
            have HS := hd (below_below HB.out s.bel)
            have HK2 := hd (HK.out.keep s.bel)
            clear hany d0 d1 c10 c11 c12
            generalize s.wd = w2 at *
            go_wp2_with fail
            go_ret
            refine VEnd.eq (VEnd.mk HS.out) ?_
            have e0 : okPol rs qs = false := by
              unfold okPol
              rw [all_not hxk (by rw [HE1.out]; exact HB1.out)]; simp
            rw [← HC.out, e0]
            rfl
          · by_cases h0 : k = 0
            · have hz : decide (0 < k) = false := by rw [h0]; rfl
              have H0 := hd h0
              clear h0
              refine wp_region_later (by kernel_rfl) (by kernel_rfl) ?_
              repeat (go_big_quiet_step (first | (go_at_call 46; exact later_of (HM1.out _)) | fail))
              refine wpQuiet_nil ?_
              rintro _ ⟨s, rfl⟩
              have HS := hd (below_below HB.out s.bel)
              have HK2 := hd (HK.out.keep s.bel)
              clear hany d0 d1 c10 c11 c12
              generalize s.wd = w2 at *
              go_wp2_with fail
              go_roundw
              case rel =>
                refine ⟨k + 1, by omega, by go_num, HS.out, HK2.out, fun t ht => ?_, fun t ht => absurd ht (by have := H0.out; omega)⟩
                have e : t = k := by have := H0.out; omega
                subst e
                rw [getElem!_pos rs t hxk, HE1.out]
                exact HB1.out
              case measure => simp [intOf]; omega
            · have hz : decide (0 < k) = true := decide_eq_true (by omega)
              obtain ⟨j, hj⟩ : ∃ j, j + 1 = k := ⟨k - 1, by omega⟩
              have hjn : j < n := by omega
              have hjz : (j : Int) < (n : Int) := by omega
              have hxj : j < rs.length := by omega
              have hw : IntKind.i64.wrap ((k : Int) - 1) = (j : Int) := by rw [IntKind.wrap_i64]; omega
              obtain ⟨⟨s2, x2, p2⟩, he2⟩ : ∃ r : RuleD, rs[j]'(by omega) = r := ⟨_, rfl⟩
              obtain ⟨g', off', hx', _, _, c20, c21, c22⟩ := HR.out.atR HB.out HN.out hjn he2
              injection hx' with hx'
              injection hx' with e1 e2 _
              subst e1 e2
              have HE2 := hd he2
              clear he2
              have HJ := hd hj
              clear hj h0
              have c20 := Ltr.cell c20
              have c21 := Ltr.cell c21
              have c22 := Ltr.cell c22
              obtain ⟨r, hr⟩ : ∃ r, lts s2 s1 = r := ⟨_, rfl⟩
              have HRr := hd hr
              have hle : (Op.bytesLess s1.toList s2.toList || s1.toList == s2.toList) = !r := bl_leq s1 s2 r hr
              clear hr
              refine wp_region_later (by kernel_rfl) (by kernel_rfl) ?_
              repeat (go_big_quiet_step (first | (go_at_call 46; exact later_of (HM1.out _)) | fail))
              refine wpQuiet_nil ?_
              rintro _ ⟨s, rfl⟩
              have HS := hd (below_below HB.out s.bel)
              have HK2 := hd (HK.out.keep s.bel)
              clear hany d0 d1 c10 c11 c12 c20 c21 c22
              generalize s.wd = w2 at *
              clear hle
              cases r
              · simp only [Bool.not_false]
                go_wp2_with fail
                go_ret
                refine VEnd.eq (VEnd.mk HS.out) ?_
                have e0 : okPol rs qs = false := by
                  unfold okPol
                  rw [rises_not (nm := Prod.fst) (i := j) (xs := rs) (by rw [HJ.out]; exact hxk) (by
                    rw [getElem!_pos rs j hxj, HE2.out, getElem!_pos rs (j + 1) (by rw [HJ.out]; exact hxk)]
                    have : rs[j + 1]'(by rw [HJ.out]; exact hxk) = rs[k] := by congr 1
                    rw [this, HE1.out]
                    exact HRr.out)]
                  simp
                rw [← HC.out, e0]
                rfl
              · simp only [Bool.not_true]
                go_wp2_with fail
                go_roundw
                case rel =>
                  refine ⟨k + 1, by omega, by go_num, HS.out, HK2.out, fun t ht => ?_, fun t ht => ?_⟩
                  · by_cases e : t = k
                    · subst e
                      rw [getElem!_pos rs t hxk, HE1.out]
                      exact HB1.out
                    · exact HA.out t (by omega)
                  · by_cases e : t = j
                    · subst e
                      have hk := HJ.out
                      subst hk
                      rw [getElem!_pos rs t hxj, HE2.out, getElem!_pos rs (t + 1) hxk, HE1.out]
                      exact HRr.out
                    · exact HI.out t (by have := HJ.out; omega)
                case measure => simp [intOf]; omega
        · have hnl : ¬ (k : Int) < (n : Int) := by omega
          have hkn' : k = n := by omega
          have HKN := hd hkn'
          clear hkn'
          have HAR : Hid (rs.all okRule = true) := hd (all_take fun t ht => HA.out t (by have := HKN.out; have := HN.out; omega))
          have HIR : Hid (rises (α := RuleD) Prod.fst rs = true) := hd (rises_at fun i hi => HI.out i (by have := HKN.out; have := HN.out; omega))
          clear HA HI
          go_wp2_with fail
          have A := HK
          have B := HB
          clear HK HB d0 d1
          go_loopw [4] (fun i wr => ∃ k : Nat, k ≤ m ∧ i = .int .i64 (k : Int) ∧ Below w.heap.size w wr ∧ Bk wr w.heap.size 25 #[Value.slice x0 n capr, Value.slice y0 m capq] ∧ (∀ t, t < k → okReader (qs[t]!) = true) ∧ ∀ t, t + 1 < k → lts (qs[t]!).1 (qs[t + 1]!).1 = true) (fun i _ => m - (intOf i).toNat)
          case atStart => exact ⟨0, Nat.zero_le _, rfl, B.out, A.out, fun t ht => absurd ht (Nat.not_lt_zero t), fun t ht => absurd ht (Nat.not_lt_zero _)⟩
          case round =>
            obtain ⟨k, hkn, rfl, hb, hbk, ha, hri⟩ := hrel
            have HA := hd ha
            have HI := hd hri
            have HB := hd hb
            have HK := hd hbk
            clear ha hb hbk hri A B
            have d0 := HK.out.cell 0
            have d1 := HK.out.cell 1
            simp at d0 d1
            by_cases hlt : k < m
            · have hlz : (k : Int) < (m : Int) := by omega
              have hxk : k < qs.length := by rw [HM.out]; omega
              obtain ⟨⟨s1, x1, p1, a1, b1⟩, he1⟩ : ∃ r : ReaderD, qs[k]'(by omega) = r := ⟨_, rfl⟩
              obtain ⟨g, off, hx, hc, h47, c10, c11, c12, c13, c14⟩ := HQ.out.atQ HB.out HM.out hlt he1
              subst hx
              have HE1 := hd he1
              clear he1
              obtain ⟨q, hq⟩ : ∃ q, okReader (s1, x1, p1, a1, b1) = q := ⟨_, rfl⟩
              have HB1 := hd hq
              have HM1 : Hid (∀ w, Calls Tryz.prog 47 #[(.agg #[.string s1, .int .i64 x1, .int .u32 p1, .int .i64 a1, .int .i64 b1])] w fun e w' => VEnd w (.bool q) e w') := hd fun w => by
                have h := mayReader_any s1 x1 p1 a1 b1 w
                rw [hq] at h
                exact h
              clear hq
              go_wp2_with fail
              have c0 := d0
              have c1 := d1
              have D0 := hd d0
              have D1 := hd d1
              clear d0 d1
              have d0 := Ltr.cell c0
              have d1 := Ltr.cell c1
              have c10 := Ltr.cell c10
              have c11 := Ltr.cell c11
              have c12 := Ltr.cell c12
              have c13 := Ltr.cell c13
              have c14 := Ltr.cell c14
              have hany := Ltr.any wr
              clear c0 c1
              cases q
              · 
                refine wp_region_later (by kernel_rfl) (by kernel_rfl) ?_
                repeat (go_big_quiet_step (first | (go_at_call 47; exact later_of (HM1.out _)) | fail))
                refine wpQuiet_nil ?_
                rintro _ ⟨s, rfl⟩
                have HS := hd (below_below HB.out s.bel)
                have HK2 := hd (HK.out.keep s.bel)
                clear hany d0 d1 c10 c11 c12 c13 c14
                generalize s.wd = w2 at *
                go_wp2_with fail
                go_ret
                refine VEnd.eq (VEnd.mk HS.out) ?_
                have e0 : okPol rs qs = false := by
                  unfold okPol
                  rw [all_not hxk (by rw [HE1.out]; exact HB1.out)]; simp
                rw [← HC.out, e0]
                rfl
              · by_cases h0 : k = 0
                · have hz : decide (0 < k) = false := by rw [h0]; rfl
                  have H0 := hd h0
                  clear h0
                  refine wp_region_later (by kernel_rfl) (by kernel_rfl) ?_
                  repeat (go_big_quiet_step (first | (go_at_call 47; exact later_of (HM1.out _)) | fail))
                  refine wpQuiet_nil ?_
                  rintro _ ⟨s, rfl⟩
                  have HS := hd (below_below HB.out s.bel)
                  have HK2 := hd (HK.out.keep s.bel)
                  clear hany d0 d1 c10 c11 c12 c13 c14
                  generalize s.wd = w2 at *
                  go_wp2_with fail
                  go_roundw
                  case rel =>
                    refine ⟨k + 1, by omega, by go_num, HS.out, HK2.out, fun t ht => ?_, fun t ht => absurd ht (by have := H0.out; omega)⟩
                    have e : t = k := by have := H0.out; omega
                    subst e
                    rw [getElem!_pos qs t hxk, HE1.out]
                    exact HB1.out
                  case measure => simp [intOf]; omega
                · have hz : decide (0 < k) = true := decide_eq_true (by omega)
                  obtain ⟨j, hj⟩ : ∃ j, j + 1 = k := ⟨k - 1, by omega⟩
                  have hjn : j < m := by omega
                  have hjz : (j : Int) < (m : Int) := by omega
                  have hxj : j < qs.length := by omega
                  have hw : IntKind.i64.wrap ((k : Int) - 1) = (j : Int) := by rw [IntKind.wrap_i64]; omega
                  obtain ⟨⟨s2, x2, p2, a2, b2⟩, he2⟩ : ∃ r : ReaderD, qs[j]'(by omega) = r := ⟨_, rfl⟩
                  obtain ⟨g', off', hx', _, _, c20, c21, c22, c23, c24⟩ := HQ.out.atQ HB.out HM.out hjn he2
                  injection hx' with hx'
                  injection hx' with e1 e2 _
                  subst e1 e2
                  have HE2 := hd he2
                  clear he2
                  have HJ := hd hj
                  clear hj h0
                  have c20 := Ltr.cell c20
                  have c21 := Ltr.cell c21
                  have c22 := Ltr.cell c22
                  have c23 := Ltr.cell c23
                  have c24 := Ltr.cell c24
                  obtain ⟨r, hr⟩ : ∃ r, lts s2 s1 = r := ⟨_, rfl⟩
                  have HRr := hd hr
                  have hle : (Op.bytesLess s1.toList s2.toList || s1.toList == s2.toList) = !r := bl_leq s1 s2 r hr
                  clear hr
                  refine wp_region_later (by kernel_rfl) (by kernel_rfl) ?_
                  repeat (go_big_quiet_step (first | (go_at_call 47; exact later_of (HM1.out _)) | fail))
                  refine wpQuiet_nil ?_
                  rintro _ ⟨s, rfl⟩
                  have HS := hd (below_below HB.out s.bel)
                  have HK2 := hd (HK.out.keep s.bel)
                  clear hany d0 d1 c10 c11 c12 c13 c14 c20 c21 c22 c23 c24
                  generalize s.wd = w2 at *
                  clear hle
                  cases r
                  · simp only [Bool.not_false]
                    go_wp2_with fail
                    go_ret
                    refine VEnd.eq (VEnd.mk HS.out) ?_
                    have e0 : okPol rs qs = false := by
                      unfold okPol
                      rw [rises_not (nm := Prod.fst) (i := j) (xs := qs) (by rw [HJ.out]; exact hxk) (by
                        rw [getElem!_pos qs j hxj, HE2.out, getElem!_pos qs (j + 1) (by rw [HJ.out]; exact hxk)]
                        have : qs[j + 1]'(by rw [HJ.out]; exact hxk) = qs[k] := by congr 1
                        rw [this, HE1.out]
                        exact HRr.out)]
                      simp
                    rw [← HC.out, e0]
                    rfl
                  · simp only [Bool.not_true]
                    go_wp2_with fail
                    go_roundw
                    case rel =>
                      refine ⟨k + 1, by omega, by go_num, HS.out, HK2.out, fun t ht => ?_, fun t ht => ?_⟩
                      · by_cases e : t = k
                        · subst e
                          rw [getElem!_pos qs t hxk, HE1.out]
                          exact HB1.out
                        · exact HA.out t (by omega)
                      · by_cases e : t = j
                        · subst e
                          have hk := HJ.out
                          subst hk
                          rw [getElem!_pos qs t hxj, HE2.out, getElem!_pos qs (t + 1) hxk, HE1.out]
                          exact HRr.out
                        · exact HI.out t (by have := HJ.out; omega)
                    case measure => simp [intOf]; omega
            · have hnl : ¬ (k : Int) < (m : Int) := by omega
              have hkn' : k = m := by omega
              have HKN := hd hkn'
              clear hkn'
              have HAQ : Hid (qs.all okReader = true) := hd (all_take fun t ht => HA.out t (by have := HKN.out; have := HM.out; omega))
              have HIQ : Hid (rises (α := ReaderD) Prod.fst qs = true) := hd (rises_at fun i hi => HI.out i (by have := HKN.out; have := HM.out; omega))
              clear HA HI
              go_wp2_with fail
              go_ret
              refine VEnd.eq (VEnd.mk HB.out) ?_
              have e0 : okPol rs qs = true := by
                unfold okPol
                rw [H1.out.1, H1.out.2, HAR.out, HIR.out, HAQ.out, HIQ.out]
                rfl
              rw [← HC.out, e0]
              rfl
    · have h2z : (16 : Int) < (m : Int) := by omega
      have h2F := hd h2
      clear h2
      go_enter Tryz.func17, Tryz.ntmps17
      go_wp2_with fail
      have A1 := Bk.new w 25 #[Value.slice x0 n capr, Value.slice y0 m capq]
      have B1 := below1 w (Obj.cells #[Value.slice x0 n capr, Value.slice y0 m capq] 25)
      generalize w.alloc (Obj.cells #[Value.slice x0 n capr, Value.slice y0 m capq] 25) = w1 at *
      have c0 := A1.cell 0
      have c1 := A1.cell 1
      simp at c0 c1
      have A := hd A1
      have B := hd B1
      clear A1 B1
      go_ret
      exact VEnd.eq (VEnd.mk B.out) (by rw [← HC.out]; unfold okPol ckI; rw [HM.out, decide_eq_false h2F.out]; simp only [Bool.false_and, Bool.and_false]; rfl)
  · have h1z : (64 : Int) < (n : Int) := by omega
    have h1F := hd h1
    clear h1
    go_enter Tryz.func17, Tryz.ntmps17
    go_wp2_with fail
    have A1 := Bk.new w 25 #[Value.slice x0 n capr, Value.slice y0 m capq]
    have B1 := below1 w (Obj.cells #[Value.slice x0 n capr, Value.slice y0 m capq] 25)
    generalize w.alloc (Obj.cells #[Value.slice x0 n capr, Value.slice y0 m capq] 25) = w1 at *
    have c0 := A1.cell 0
    have c1 := A1.cell 1
    simp at c0 c1
    have A := hd A1
    have B := hd B1
    clear A1 B1
    go_ret
    exact VEnd.eq (VEnd.mk B.out) (by rw [← HC.out]; unfold okPol ckI; rw [HN.out, decide_eq_false h1F.out]; rfl)

end Go.Proofs.YtcigbfjmnhogiaaGreatDoor
