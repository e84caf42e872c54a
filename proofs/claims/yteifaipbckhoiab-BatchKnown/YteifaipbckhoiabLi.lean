/- Lists of attributes that may be, both sides. -/
import Derived.Test.YteifaipbckhoiabAt
namespace Go.Proofs.Yteifaipbckhoiab
open Go.RowKit
set_option linter.unusedVariables false

theorem El.atA {w w' : World} {xs : List AttrD} {x0 : Option Addr} {n cap : Nat} (h : El encA 6 w (.slice x0 n cap) xs) (bl : Below w.heap.size w w') (hn : xs.length = n) {j : Nat} (hj : j < n) {s : ByteArray} {x p k m : Int} {b : ByteArray} (he : xs[j]'(by omega) = (s, x, p, k, m, b)) :
    ∃ g off, x0 = some ⟨g, off, none⟩ ∧ n ≤ cap ∧ n ≤ 140737488355328 ∧ w'.cell? ⟨g, off + j * 6, none⟩ = some (.string s) ∧ w'.cell? ⟨g, off + j * 6 + 1, none⟩ = some (.int .i64 x) ∧ w'.cell? ⟨g, off + j * 6 + 2, none⟩ = some (.int .u32 p) ∧ w'.cell? ⟨g, off + j * 6 + 3, none⟩ = some (.int .i64 k) ∧ w'.cell? ⟨g, off + j * 6 + 4, none⟩ = some (.int .i64 m) ∧ w'.cell? ⟨g, off + j * 6 + 5, none⟩ = some (.string b) := by
  obtain ⟨g, off, h1, h2, h3, h4⟩ := h.at_ bl hn hj
  rw [he] at h4
  exact ⟨g, off, h1, h2, h3, h4 0 _ rfl, h4 1 _ rfl, h4 2 _ rfl, h4 3 _ rfl, h4 4 _ rfl, h4 5 _ rfl⟩

theorem leq_not (s t : ByteArray) : (Op.bytesLess s.toList t.toList || s.toList == t.toList) = !lts t s := by
  rw [ByteArray.toList_eq, ByteArray.toList_eq]
  show (lts s t || eqs s t) = !lts t s
  cases h : lts s t
  · cases k : lts t s
    · rw [lts_tot h k, eqs_self]; rfl
    · rw [eqs_false (lts_ne k).symm]; rfl
  · rw [lts_asym h]; rfl

/-- Each may be, and they rise. -/
def okGo (xs : List AttrD) : Bool := xs.all okA && rises (α := AttrD) Prod.fst xs
theorem okAs_go (xs : List AttrD) : okAs xs = (decide (xs.length ≤ 8) && okGo xs) := by unfold okAs okGo; rw [Bool.and_assoc]
theorem okGo_bad {xs : List AttrD} {i : Nat} (hi : i < xs.length) (h : okA (xs[i]'hi) = false) : okGo xs = false := by
  unfold okGo
  rw [Bool.and_eq_false_iff]
  left
  rw [List.all_eq_false]
  exact ⟨xs[i], List.getElem_mem hi, by rw [h]; simp⟩
theorem okGo_low {xs : List AttrD} {i : Nat} (hi : i + 1 < xs.length) (h : lts (xs[i]'(by omega)).1 (xs[i + 1]'hi).1 = false) : okGo xs = false := by
  unfold okGo
  rw [Bool.and_eq_false_iff]
  right
  refine rises_not (i := i) hi ?_
  rw [getElem!_pos xs i (by omega), getElem!_pos xs (i + 1) hi]
  exact h
theorem okGo_all {xs : List AttrD} (h : ∀ t, t < xs.length → okA (xs[t]!) = true) (h2 : ∀ t, t + 1 < xs.length → lts (xs[t]!).1 (xs[t + 1]!).1 = true) : okGo xs = true := by
  unfold okGo
  rw [Bool.and_eq_true]
  refine ⟨?_, rises_at h2⟩
  rw [List.all_eq_true]
  intro r hr
  obtain ⟨t, ht, rfl⟩ := List.getElem_of_mem hr
  have := h t ht
  rw [getElem!_pos xs t ht] at this
  exact this

set_option maxRecDepth 100000 in
set_option maxHeartbeats 4000000 in
theorem listMay_any {w : World} {v : Value} {xs : List AttrD} (h : El encA 6 w v xs) :
    Calls Try.prog 50 #[v] w fun e w' => VEnd w (.bool (okAs xs)) e w' := by
  obtain ⟨x0, cap, rfl⟩ := h.form
  have H47 := h.len
  have HL := hd h
  clear h
  rw [okAs_go]
  obtain ⟨n, hn⟩ : ∃ n, xs.length = n := ⟨_, rfl⟩
  rw [hn] at HL H47 ⊢
  have HN := hd hn
  clear hn
  by_cases h8 : 8 < n
  · have h8' : (8 : Int) < (n : Int) := by omega
    have H8 := hd h8
    go_enter Try.func50, Try.ntmps50
    go_wp2_with fail
    go_ret
    exact VEnd.eq (VEnd.mk (Below.refl _ _)) (by rw [decide_eq_false (by have := H8.out; omega)]; rfl)
  have h8' : ¬ (8 : Int) < (n : Int) := by omega
  rw [decide_eq_true (show n ≤ 8 by omega), Bool.true_and]
  clear h8
  go_enter Try.func50, Try.ntmps50
  go_wp2_with fail
  go_loopw [3, 4, 10] (fun _ _ i wr => ∃ k : Nat, k ≤ n ∧ i = .int .i64 (k : Int) ∧ Below w.heap.size w wr ∧ (∀ t, t < k → okA (xs[t]!) = true) ∧ ∀ t, t + 1 < k → lts (xs[t]!).1 (xs[t + 1]!).1 = true) (fun _ _ i _ => n - (intOf i).toNat)
  case atStart => exact ⟨0, Nat.zero_le _, rfl, Below.refl _ _, fun t ht => absurd ht (Nat.not_lt_zero t), fun t ht => absurd ht (Nat.not_lt_zero _)⟩
  case round =>
    obtain ⟨k, hkn, rfl, hb, ha, hr⟩ := hrel
    have HA := hd ha
    have HR := hd hr
    have HB := hd hb
    clear ha hr hb
    by_cases hlt : k < n
    · have hlz : (k : Int) < (n : Int) := by omega
      have hxk : k < xs.length := by rw [HN.out]; omega
      obtain ⟨⟨s, x, p, kk, m, b⟩, he1⟩ : ∃ r : AttrD, xs[k]'(by omega) = r := ⟨_, rfl⟩
      obtain ⟨g, off, hx, hc, h47, c0, c1, c2, c3, c4, c5⟩ := HL.out.atA HB.out HN.out hlt he1
      subst hx
      have HE1 := hd he1
      clear he1
      have HKN := hd hkn
      clear hkn
      go_wp2_with fail
      have NB := below1 wr (Obj.cells #[Value.string s, Value.int IntKind.i64 x, Value.int IntKind.u32 p, Value.int IntKind.i64 kk, Value.int IntKind.i64 m, Value.string b] 44)
      have HB1 := hd (below_below HB.out NB)
      clear NB
      have A1 := Bk.new wr 44 #[Value.string s, Value.int IntKind.i64 x, Value.int IntKind.u32 p, Value.int IntKind.i64 kk, Value.int IntKind.i64 m, Value.string b]
      generalize wr.heap.size = gz at *
      generalize wr.alloc (Obj.cells #[Value.string s, Value.int IntKind.i64 x, Value.int IntKind.u32 p, Value.int IntKind.i64 kk, Value.int IntKind.i64 m, Value.string b] 44) = W1 at *
      have e0 := A1.cell 0
      have e1 := A1.cell 1
      have e2 := A1.cell 2
      have e3 := A1.cell 3
      have e4 := A1.cell 4
      have e5 := A1.cell 5
      simp at e0 e1 e2 e3 e4 e5
      clear A1 c0 c1 c2 c3 c4 c5
      cases hok : okA (s, x, p, kk, m, b)
      · have HCK : Hid (∀ w : World, Calls Try.prog 62 #[.agg #[Value.string s, Value.int IntKind.i64 x, Value.int IntKind.u32 p, Value.int IntKind.i64 kk, Value.int IntKind.i64 m, Value.string b]] w fun e w' => VEnd w (.int .i64 80) e w') := hd (fun w => by
          have h := checkA_any (s, x, p, kk, m, b) w
          rw [hok] at h
          exact h)
        have HOK := hd hok
        clear hok
        have e0 := Ltr.cell e0
        have e1 := Ltr.cell e1
        have e2 := Ltr.cell e2
        have e3 := Ltr.cell e3
        have e4 := Ltr.cell e4
        have e5 := Ltr.cell e5
        have hany := Ltr.any W1
        skip
        refine wp_region_later (by kernel_rfl) (by kernel_rfl) ?_
        repeat (go_big_quiet_step (first | (go_at_call 62; exact later_of (HCK.out _)) | fail))
        refine wpQuiet_nil ?_
        rintro _ ⟨q, rfl⟩
        have HS := hd (below_below HB1.out q.bel)
        clear hany e0 e1 e2 e3 e4 e5
        generalize q.wd = w2 at *
        go_wp2_with fail
        go_ret
        refine VEnd.eq (VEnd.mk HS.out) ?_
        rw [okGo_bad hxk (by rw [HE1.out]; exact HOK.out)]
        rfl
      · have HCK : Hid (∀ w : World, Calls Try.prog 62 #[.agg #[Value.string s, Value.int IntKind.i64 x, Value.int IntKind.u32 p, Value.int IntKind.i64 kk, Value.int IntKind.i64 m, Value.string b]] w fun e w' => VEnd w (.int .i64 0) e w') := hd (fun w => by
          have h := checkA_any (s, x, p, kk, m, b) w
          rw [hok] at h
          exact h)
        have HOK := hd hok
        clear hok
        by_cases hk0 : k = 0
        · subst hk0
          have e0 := Ltr.cell e0
          have e1 := Ltr.cell e1
          have e2 := Ltr.cell e2
          have e3 := Ltr.cell e3
          have e4 := Ltr.cell e4
          have e5 := Ltr.cell e5
          have hany := Ltr.any W1
          skip
          refine wp_region_later (by kernel_rfl) (by kernel_rfl) ?_
          repeat (go_big_quiet_step (first | (go_at_call 62; exact later_of (HCK.out _)) | fail))
          refine wpQuiet_nil ?_
          rintro _ ⟨q, rfl⟩
          have HS := hd (below_below HB1.out q.bel)
          clear hany e0 e1 e2 e3 e4 e5
          generalize q.wd = w2 at *
          go_wp2_with fail
          go_roundw
          case rel =>
            refine ⟨1, by omega, by go_num, HS.out, fun t ht => ?_, fun t ht => absurd ht (by omega)⟩
            obtain rfl : t = 0 := by omega
            rw [getElem!_pos xs 0 hxk, HE1.out]
            exact HOK.out
          case measure => simp [intOf]; omega
        · have hkp : (0 : Int) < (k : Int) := by omega
          have hkp' : 0 < k := by omega
          obtain ⟨mm, hm⟩ : ∃ mm, mm + 1 = k := ⟨k - 1, by omega⟩
          have hmn : mm < n := by omega
          have hmz : (mm : Int) < (n : Int) := by omega
          have hm0 : (0 : Int) ≤ (mm : Int) := by omega
          have hw : IntKind.i64.wrap ((k : Int) - 1) = (mm : Int) := by rw [IntKind.wrap_i64]; omega
          have hxm : mm < xs.length := by rw [HN.out]; omega
          obtain ⟨⟨s0, x0, p0, k0, m0, b0⟩, he0⟩ : ∃ r : AttrD, xs[mm]'(by omega) = r := ⟨_, rfl⟩
          obtain ⟨g', off', hx', _, _, d0, _, _, _, _, _⟩ := HL.out.atA HB1.out HN.out hmn he0
          injection hx' with hx'
          injection hx' with q1 q2 _
          subst q1 q2
          have HE0 := hd he0
          have HM := hd hm
          clear he0 hk0 hm
          have e0 := Ltr.cell e0
          have e1 := Ltr.cell e1
          have e2 := Ltr.cell e2
          have e3 := Ltr.cell e3
          have e4 := Ltr.cell e4
          have e5 := Ltr.cell e5
          have d0 := Ltr.cell d0
          have hany := Ltr.any W1
          skip
          refine wp_region_later (by kernel_rfl) (by kernel_rfl) ?_
          repeat (go_big_quiet_step (first | (go_at_call 62; exact later_of (HCK.out _)) | fail))
          refine wpQuiet_nil ?_
          rintro _ ⟨q, rfl⟩
          have HS := hd (below_below HB1.out q.bel)
          clear hany e0 e1 e2 e3 e4 e5 d0
          generalize q.wd = w2 at *
          obtain ⟨z, hz⟩ : ∃ z, lts s0 s = z := ⟨_, rfl⟩
          have hbl : Op.bytesLess s0.toList s.toList = z := by rw [ByteArray.toList_eq, ByteArray.toList_eq]; exact hz
          rw [hbl]
          have HZ := hd hz
          clear hz hbl
          cases z
          · go_wp2_with fail
            go_ret
            refine VEnd.eq (VEnd.mk HS.out) ?_
            rw [okGo_low (i := mm) (by rw [HM.out]; exact hxk) (by
              rw [HE0.out]
              have : xs[mm + 1]'(by rw [HM.out]; exact hxk) = xs[k] := by have hh := HM.out; subst hh; rfl
              rw [this, HE1.out]
              exact HZ.out)]
            rfl
          · go_wp2_with fail
            go_roundw
            case rel =>
              refine ⟨k + 1, by omega, by go_num, HS.out, fun t ht => ?_, fun t ht => ?_⟩
              · by_cases e : t = k
                · subst e
                  rw [getElem!_pos xs t hxk, HE1.out]
                  exact HOK.out
                · exact HA.out t (by omega)
              · by_cases e : t = mm
                · subst e
                  have hk := HM.out
                  subst hk
                  rw [getElem!_pos xs t hxm, HE0.out, getElem!_pos xs (t + 1) hxk, HE1.out]
                  exact HZ.out
                · exact HR.out t (by have := HM.out; omega)
            case measure => simp [intOf]; omega
    · have hnl : ¬ (k : Int) < (n : Int) := by omega
      have hkn' : k = n := by omega
      subst hkn'
      go_wp2_with fail
      go_ret
      refine VEnd.eq (VEnd.mk HB.out) ?_
      rw [okGo_all (fun t ht => HA.out t (by rw [HN.out] at ht; omega)) (fun t ht => HR.out t (by rw [HN.out] at ht; omega))]
      rfl

end Go.Proofs.Yteifaipbckhoiab
