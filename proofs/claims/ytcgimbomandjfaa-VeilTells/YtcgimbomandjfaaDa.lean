/- The document's Check, bit, Flows. -/
import Derived.Test.YtcgimbomandjfaaPm
import Derived.Laws.Shifts
namespace Go.Proofs.Ytcgimbomandjfaa
open Go.RowKit
set_option linter.unusedVariables false

set_option maxHeartbeats 400000 in
theorem rcheck_any (x p : Int) (w : World) :
    Calls Try.prog 10 #[.agg #[.int .i64 x, .int .u32 p]] w fun e w' => VEnd w (.int .i64 (if okL x then 0 else 9)) e w' := by
  obtain ⟨c, hc⟩ : ∃ c : Int, (if okL x then 0 else 9) = c := ⟨_, rfl⟩
  rw [hc]
  have HC := hd hc
  clear hc
  go_enter Try.func10, Try.ntmps10
  go_wp2_with fail
  refine (may_any x p _).mono ?_
  rintro e w2 ⟨rfl, hk⟩
  have B := hd (below_below (below1 w (Obj.cells #[Value.int IntKind.i64 x, Value.int IntKind.u32 p] 24)) hk)
  clear hk
  cases ho : okL x
  all_goals
    have HO := hd ho
    clear ho
    go_wp2_with fail
    go_ret
    exact VEnd.eq (VEnd.mk B.out) (by rw [← HC.out, HO.out]; rfl)

theorem bit_val (P : BitVec 32) (i : Nat) : (bits .and .u32 ((P.toNat : Int) / 2 ^ i) 1 == 1) = P.getLsbD i := by
  have hlt := P.isLt
  have hdl : P.toNat / 2 ^ i < 4294967296 := Nat.lt_of_le_of_lt (Nat.div_le_self _ _) hlt
  have e1 : ((P.toNat : Int) / 2 ^ i) = ((P.toNat / 2 ^ i : Nat) : Int) := by
    rw [Int.natCast_ediv, Int.natCast_pow]
    rfl
  have h := u32_and_nat (P.toNat / 2 ^ i) 1 hdl (by omega)
  rw [e1]
  rw [show (1 : Int) = ((1 : Nat) : Int) from rfl, h, Nat.and_one_is_mod]
  rw [show P.getLsbD i = P.toNat.testBit i from rfl, Nat.testBit_eq_decide_div_mod_eq]
  by_cases hb : P.toNat / 2 ^ i % 2 = 1
  · rw [hb]; rfl
  · have : P.toNat / 2 ^ i % 2 = 0 := by omega
    rw [this]; rfl

set_option maxHeartbeats 400000 in
theorem bit_b (x : Int) (P : BitVec 32) (i : Nat) (hi : i < 32) (w : World) :
    Calls Try.prog 36 #[.agg #[.int .i64 x, .int .u32 (P.toNat : Int)], .int .i64 (i : Int)] w fun e w' => VEnd w (.bool (P.getLsbD i)) e w' := by
  have hp : 0 ≤ (P.toNat : Int) := by omega
  have hp' : (P.toNat : Int) < 4294967296 := by have := P.isLt; omega
  have hi0 : (0 : Int) ≤ (i : Int) := by omega
  have hi1 : (i : Int) ≤ 32 := by omega
  go_enter Try.func36, Try.ntmps36
  go_wp2_with fail
  go_ret
  exact VEnd.eq (VEnd.mk (below1 _ _)) (congrArg Value.bool (bit_val P i))

set_option maxRecDepth 100000 in
set_option maxHeartbeats 2000000 in
theorem rflows_b (x y : Int) (P Q : BitVec 32) (w : World) :
    Calls Try.prog 12 #[.agg #[.int .i64 x, .int .u32 (P.toNat : Int)], .agg #[.int .i64 y, .int .u32 (Q.toNat : Int)]] w fun e w' => VEnd w (.bool (okL x && okL y && fl x P y Q)) e w' := by
  obtain ⟨c, hc⟩ : ∃ c : Bool, (okL x && okL y && fl x P y Q) = c := ⟨_, rfl⟩
  rw [hc]
  have HC := hd hc
  clear hc
  have BP : Hid (∀ (i : Nat) w, i < 32 → Calls Try.prog 36 #[.agg #[.int .i64 x, .int .u32 (P.toNat : Int)], .int .i64 (i : Int)] w fun e w' => VEnd w (.bool (P.getLsbD i)) e w') := hd fun i w hi => bit_b x P i hi w
  have BQ : Hid (∀ (i : Nat) w, i < 32 → Calls Try.prog 36 #[.agg #[.int .i64 y, .int .u32 (Q.toNat : Int)], .int .i64 (i : Int)] w fun e w' => VEnd w (.bool (Q.getLsbD i)) e w') := hd fun i w hi => bit_b y Q i hi w
  have MX : Hid (∀ w, Calls Try.prog 34 #[.agg #[.int .i64 x, .int .u32 (P.toNat : Int)]] w fun e w' => VEnd w (.bool (okL x)) e w') := hd fun w => may_any _ _ w
  have MY : Hid (∀ w, Calls Try.prog 34 #[.agg #[.int .i64 y, .int .u32 (Q.toNat : Int)]] w fun e w' => VEnd w (.bool (okL y)) e w') := hd fun w => may_any _ _ w
  obtain ⟨ox, hox⟩ : ∃ o, okL x = o := ⟨_, rfl⟩
  obtain ⟨oy, hoy⟩ : ∃ o, okL y = o := ⟨_, rfl⟩
  rw [hox] at MX
  rw [hoy] at MY
  rw [hox, hoy] at HC
  clear hox hoy
  obtain ⟨p, hp⟩ : ∃ p : Int, (P.toNat : Int) = p := ⟨_, rfl⟩
  obtain ⟨q, hq⟩ : ∃ q : Int, (Q.toNat : Int) = q := ⟨_, rfl⟩
  rw [hp] at MX BP
  rw [hq] at MY BQ
  rw [hp, hq]
  clear hp hq
  go_enter Try.func12, Try.ntmps12
  go_wp2_with fail
  have A1 := Lb.new w x p
  have B1 := below1 w (Obj.cells #[Value.int IntKind.i64 x, Value.int IntKind.u32 p] 24)
  have s1 : (w.alloc (Obj.cells #[Value.int IntKind.i64 x, Value.int IntKind.u32 p] 24)).heap.size = w.heap.size + 1 := by simp
  generalize w.alloc (Obj.cells #[Value.int IntKind.i64 x, Value.int IntKind.u32 p] 24) = w1 at *
  have A2 := Lb.new w1 y q
  have A1' := A1.alloc (Obj.cells #[Value.int IntKind.i64 y, Value.int IntKind.u32 q] 24)
  have B2 := below_below B1 (below1 w1 (Obj.cells #[Value.int IntKind.i64 y, Value.int IntKind.u32 q] 24))
  rw [s1] at A2
  generalize w1.alloc (Obj.cells #[Value.int IntKind.i64 y, Value.int IntKind.u32 q] 24) = w2 at *
  refine (MX.out _).mono ?_
  rintro e w3 ⟨rfl, hk⟩
  have B3 := hd (below_below B2 hk)
  have X3 := hd (A1'.keep hk)
  have Y3 := hd (A2.keep hk)
  clear A1 A1' A2 B1 B2 hk s1
  have x0 := X3.out.c0
  have y0 := Y3.out.c0
  have y1 := Y3.out.c1
  cases ox
  · go_wp2_with fail
    go_ret
    exact VEnd.eq (VEnd.mk B3.out) (by rw [← HC.out]; rfl)
  · go_wp2_with fail
    refine (MY.out _).mono ?_
    rintro e w4 ⟨rfl, hk⟩
    have B4 := hd (below_below B3.out hk)
    have X4 := hd (X3.out.keep hk)
    have Y4 := hd (Y3.out.keep hk)
    clear x0 y0 y1 X3 Y3 B3 hk
    have x0 := X4.out.c0
    have y0 := Y4.out.c0
    cases oy
    · go_wp2_with fail
      go_ret
      exact VEnd.eq (VEnd.mk B4.out) (by rw [← HC.out]; rfl)
    · by_cases hxy : x ≤ y
      · have hxy' : ¬ y < x := by omega
        go_wp2_with fail
        clear x0 y0
        go_loopw [5] (fun i wr => ∃ k : Nat, k ≤ 32 ∧ i = .int .i64 (k : Int) ∧ (∀ j, j < k → P.getLsbD j = true → Q.getLsbD j = true) ∧ Lb wr w.heap.size x p ∧ Lb wr (w.heap.size + 1) y q ∧ Below w.heap.size w wr) (fun i _ => 32 - (intOf i).toNat)
        case atStart => exact ⟨0, Nat.zero_le _, rfl, fun j hj => absurd hj (by omega), X4.out, Y4.out, B4.out⟩
        case round =>
          obtain ⟨k, hk, rfl, ha, hX, hY, hb⟩ := hrel
          have HA := hd ha
          have HX := hd hX
          have HY := hd hY
          have HB := hd hb
          clear ha hX hY hb
          by_cases hlt : k < 32
          · have hlt' : (k : Int) < 32 := by omega
            have x0 := HX.out.c0
            have x1 := HX.out.c1
            go_wp2_with fail
            refine (BP.out k _ hlt).mono ?_
            rintro e w5 ⟨rfl, hk5⟩
            have HX5 := hd (HX.out.keep hk5)
            have HY5 := hd (HY.out.keep hk5)
            have HB5 := hd (below_below HB.out hk5)
            clear x0 x1 hk5 HX HY HB
            have y0 := HY5.out.c0
            have y1 := HY5.out.c1
            cases hbp : P.getLsbD k
            · have HBP := hd hbp
              clear hbp
              go_wp2_with fail
              go_roundw
              case rel =>
                refine ⟨k + 1, by omega, by go_num, fun j hj h => ?_, HX5.out, HY5.out, HB5.out⟩
                by_cases hjk : j = k
                · rw [hjk, HBP.out] at h; cases h
                · exact HA.out j (by omega) h
              case measure => simp [intOf]; omega
            · have HBP := hd hbp
              clear hbp
              go_wp2_with fail
              refine (BQ.out k _ hlt).mono ?_
              rintro e w6 ⟨rfl, hk6⟩
              have HX6 := hd (HX5.out.keep hk6)
              have HY6 := hd (HY5.out.keep hk6)
              have HB6 := hd (below_below HB5.out hk6)
              clear y0 y1 hk6 HX5 HY5 HB5
              cases hbq : Q.getLsbD k
              · have HBQ := hd hbq
                clear hbq
                go_wp2_with fail
                go_ret
                refine VEnd.eq (VEnd.mk HB6.out) ?_
                have : fl x P y Q = false := by
                  cases hf : fl x P y Q
                  · rfl
                  · have h := ((fl_iff _ _ _ _).1 hf).2 k hlt HBP.out
                    rw [HBQ.out] at h
                    cases h
                rw [← HC.out, this]
                rfl
              · have HBQ := hd hbq
                clear hbq
                go_wp2_with fail
                go_roundw
                case rel =>
                  refine ⟨k + 1, by omega, by go_num, fun j hj h => ?_, HX6.out, HY6.out, HB6.out⟩
                  by_cases hjk : j = k
                  · rw [hjk]; exact HBQ.out
                  · exact HA.out j (by omega) h
                case measure => simp [intOf]; omega
          · have hk32 : k = 32 := by omega
            subst hk32
            go_wp2_with fail
            go_ret
            refine VEnd.eq (VEnd.mk HB.out) ?_
            rw [← HC.out, (fl_iff _ _ _ _).2 ⟨hxy, fun i hi h => HA.out i hi h⟩]
            rfl
      · have hxy' : y < x := by omega
        go_wp2_with fail
        go_ret
        refine VEnd.eq (VEnd.mk B4.out) ?_
        have : fl x P y Q = false := by unfold fl; rw [decide_eq_false (show ¬ x ≤ y by omega)]; rfl
        rw [← HC.out, this]
        rfl

end Go.Proofs.Ytcgimbomandjfaa
