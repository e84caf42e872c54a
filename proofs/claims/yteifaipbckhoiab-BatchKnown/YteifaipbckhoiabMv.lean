/- Values that may be: mayBe, Check, both sides. -/
import Derived.Test.YteifaipbckhoiabMe
import Derived.Test.YteifaipbckhoiabMh
namespace Go.Proofs.Yteifaipbckhoiab
open Go.RowKit
set_option linter.unusedVariables false

/-- A value in cells. -/
abbrev V3 (v : ValD) : Value := .agg #[.int .i64 v.1, .int .i64 v.2.1, .string v.2.2]

theorem emp_list : (⟨#[]⟩ : ByteArray).toList.isEmpty = true := by rw [ByteArray.toList_eq]; rfl

theorem okV_1 (n : Int) (s : ByteArray) : okV (1, n, s) = (decide (-9007199254740991 ≤ n) && decide (n ≤ 9007199254740991) && s.size == 0) := by unfold okV; simp
theorem okV_2 (n : Int) (s : ByteArray) : okV (2, n, s) = (n == 0 && decide (s.size ≤ 64)) := by unfold okV; simp
theorem okV_3 (n : Int) (s : ByteArray) : okV (3, n, s) = ((n == 0 || n == 1) && s.size == 0) := by unfold okV; simp
theorem okV_o {k : Int} (n : Int) (s : ByteArray) (h1 : k ≠ 1) (h2 : k ≠ 2) (h3 : k ≠ 3) : okV (k, n, s) = false := by unfold okV; simp [h1, h2, h3]

set_option maxRecDepth 100000 in
set_option maxHeartbeats 4000000 in
theorem mayBe_any (k n : Int) (s : ByteArray) (w : World) : Calls Try.prog 81 #[.agg #[.int .i64 k, .int .i64 n, .string s]] w fun e w' => VEnd w (.bool (okV (k, n, s))) e w' := by
  obtain ⟨c, hc⟩ : ∃ c, okV (k, n, s) = c := ⟨_, rfl⟩
  rw [hc]
  have HC := hd hc
  clear hc
  by_cases k2 : k = 2
  · subst k2
    rw [okV_2] at HC
    by_cases n0 : n = 0
    · subst n0
      by_cases h : (s.size : Int) ≤ 64
      · have e := decide_eq_true (show s.size ≤ 64 by omega)
        rw [e] at HC
        clear e
        go_enter Try.func81, Try.ntmps81
        go_wp2_with fail
        go_ret
        exact VEnd.eq (VEnd.mk (below1 _ _)) (by rw [← HC.out]; rfl)
      · have e := decide_eq_false (show ¬ s.size ≤ 64 by omega)
        rw [e] at HC
        clear e
        go_enter Try.func81, Try.ntmps81
        go_wp2_with fail
        go_ret
        exact VEnd.eq (VEnd.mk (below1 _ _)) (by rw [← HC.out]; rfl)
    · have e : (n == 0) = false := beq_eq_false_iff_ne.2 n0
      have HE := hd e
      rw [e] at HC
      clear e
      have n0 := n0
      go_enter Try.func81, Try.ntmps81
      go_wp2_with fail
      go_ret
      exact VEnd.eq (VEnd.mk (below1 _ _)) (by rw [← HC.out]; rfl)
  · by_cases k3 : k = 3
    · subst k3
      rw [okV_3] at HC
      by_cases h0 : n < 0
      · have e : (n == 0 || n == 1) = false := by rw [beq_eq_false_iff_ne.2 (by omega), beq_eq_false_iff_ne.2 (by omega)]; rfl
        rw [e] at HC
        clear e
        go_enter Try.func81, Try.ntmps81
        go_wp2_with fail
        go_ret
        exact VEnd.eq (VEnd.mk (below1 _ _)) (by rw [← HC.out]; rfl)
      · by_cases h1 : 1 < n
        · have e : (n == 0 || n == 1) = false := by rw [beq_eq_false_iff_ne.2 (by omega), beq_eq_false_iff_ne.2 (by omega)]; rfl
          rw [e] at HC
          clear e
          go_enter Try.func81, Try.ntmps81
          go_wp2_with fail
          go_ret
          exact VEnd.eq (VEnd.mk (below1 _ _)) (by rw [← HC.out]; rfl)
        · by_cases hs : s.size = 0
          · obtain rfl := size0 hs
            have he := emp_list
            have h01 : n = 0 ∨ n = 1 := by omega
            rcases h01 with rfl | rfl
            all_goals
              go_enter Try.func81, Try.ntmps81
              go_wp2_with fail
              go_ret
              exact VEnd.eq (VEnd.mk (below1 _ _)) (by rw [← HC.out]; rfl)
          · have he := str_some' (s := s) (by omega)
            have e : (s.size == 0) = false := beq_eq_false_iff_ne.2 hs
            rw [e, Bool.and_false] at HC
            clear e
            have h01 : n = 0 ∨ n = 1 := by omega
            rcases h01 with rfl | rfl
            all_goals
              go_enter Try.func81, Try.ntmps81
              go_wp2_with fail
              go_ret
              exact VEnd.eq (VEnd.mk (below1 _ _)) (by rw [← HC.out]; rfl)
    · by_cases k1 : k = 1
      · subst k1
        rw [okV_1] at HC
        by_cases hs : s.size = 0
        · obtain rfl := size0 hs
          have he := emp_list
          by_cases h0 : -9007199254740991 ≤ n
          · by_cases h1 : n ≤ 9007199254740991
            · rw [decide_eq_true h0, decide_eq_true h1] at HC
              go_enter Try.func81, Try.ntmps81
              go_wp2_with fail
              go_ret
              exact VEnd.eq (VEnd.mk (below1 _ _)) (by rw [← HC.out]; rfl)
            · rw [decide_eq_false h1, Bool.and_false] at HC
              go_enter Try.func81, Try.ntmps81
              go_wp2_with fail
              go_ret
              exact VEnd.eq (VEnd.mk (below1 _ _)) (by rw [← HC.out]; rfl)
          · rw [decide_eq_false h0] at HC
            go_enter Try.func81, Try.ntmps81
            go_wp2_with fail
            go_ret
            exact VEnd.eq (VEnd.mk (below1 _ _)) (by rw [← HC.out]; rfl)
        · have he := str_some' (s := s) (by omega)
          have e : (s.size == 0) = false := beq_eq_false_iff_ne.2 hs
          rw [e, Bool.and_false] at HC
          clear e
          go_enter Try.func81, Try.ntmps81
          go_wp2_with fail
          go_ret
          exact VEnd.eq (VEnd.mk (below1 _ _)) (by rw [← HC.out]; rfl)
      · rw [okV_o n s k1 k2 k3] at HC
        go_enter Try.func81, Try.ntmps81
        go_wp2_with fail
        go_ret
        exact VEnd.eq (VEnd.mk (below1 _ _)) (by rw [← HC.out]; rfl)

set_option maxRecDepth 100000 in
set_option maxHeartbeats 1000000 in
theorem checkV_any (k n : Int) (s : ByteArray) (w : World) : Calls Try.prog 76 #[.agg #[.int .i64 k, .int .i64 n, .string s]] w fun e w' => VEnd w (.int .i64 (if okV (k, n, s) then 0 else 80)) e w' := by
  cases ho : okV (k, n, s)
  all_goals
    have HO := hd ho
    clear ho
    go_enter Try.func76, Try.ntmps76
    go_wp2_with fail
    refine (mayBe_any k n s _).mono ?_
    rintro e w2 ⟨rfl, hk⟩
    rw [HO.out]
    have B2 := hd (below_below (below1 _ _) hk)
    clear hk
    go_wp2_with fail
    go_ret
    exact VEnd.mk B2.out

end Go.Proofs.Yteifaipbckhoiab
