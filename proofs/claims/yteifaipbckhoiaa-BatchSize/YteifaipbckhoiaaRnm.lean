/- The document's IsName. -/
import Derived.Test.YteifaipbckhoiaaMe
namespace Go.Proofs.Yteifaipbckhoiaa
open Go.RowKit
set_option linter.unusedVariables false

theorem rname_cases (c j : Nat) (h : c < 256) : ((97 : Int) ≤ (c : Int) ∧ (c : Int) ≤ 122) ∨ (¬ (97 : Int) ≤ (c : Int) ∧ ((j : Int) == 0) = true) ∨ (¬ (97 : Int) ≤ (c : Int) ∧ ((j : Int) == 0) = false ∧ (c : Int) < 48 ∧ ((c : Int) != 46) = false) ∨ (¬ (97 : Int) ≤ (c : Int) ∧ ((j : Int) == 0) = false ∧ (c : Int) < 48 ∧ ((c : Int) != 46) = true ∧ ((c : Int) != 45) = false) ∨ (¬ (97 : Int) ≤ (c : Int) ∧ ((j : Int) == 0) = false ∧ (c : Int) < 48 ∧ ((c : Int) != 46) = true ∧ ((c : Int) != 45) = true) ∨ (¬ (97 : Int) ≤ (c : Int) ∧ ((j : Int) == 0) = false ∧ ¬ (c : Int) < 48 ∧ ¬ (57 : Int) < (c : Int)) ∨ (¬ (97 : Int) ≤ (c : Int) ∧ ((j : Int) == 0) = false ∧ ¬ (c : Int) < 48 ∧ (57 : Int) < (c : Int) ∧ ((c : Int) != 46) = true ∧ ((c : Int) != 45) = true) ∨ ((97 : Int) ≤ (c : Int) ∧ ¬ (c : Int) ≤ 122 ∧ ((j : Int) == 0) = true) ∨ ((97 : Int) ≤ (c : Int) ∧ ¬ (c : Int) ≤ 122 ∧ ((j : Int) == 0) = false ∧ ¬ (c : Int) < 48 ∧ (57 : Int) < (c : Int) ∧ ((c : Int) != 46) = true ∧ ((c : Int) != 45) = true) := by
  simp only [beq_iff_eq, beq_eq_false_iff_ne, bne_iff_ne, bne_eq_false_iff_eq, ne_eq]
  omega

set_option maxRecDepth 100000 in
set_option maxHeartbeats 4000000 in
theorem risname_any (s : ByteArray) (w : World) : Calls Try.prog 32 #[.string s] w fun e w' => VEnd w (.bool (isNm s)) e w' := by
  by_cases h1 : 1 ≤ s.size
  · by_cases h2 : s.size ≤ 24
    · have H2 := hd h2
      have H1 := hd h1
      obtain ⟨n, hn⟩ : ∃ n, s.size = n := ⟨_, rfl⟩
      have hlt : ¬ (24 : Int) < (n : Int) := by omega
      have h0 : ¬ (n : Int) < 1 := by omega
      have HN := hd hn
      clear h1 h2
      go_enter Try.func32, Try.ntmps32
      go_wp2_with fail
      go_loopw [3] (fun i wr => ∃ j : Nat, j ≤ n ∧ i = .int .i64 (j : Int) ∧ Below w.heap.size w wr ∧ (0 < j → isLet (bt s 0) = true) ∧ ∀ t, t < j → isSgn (bt s t) = true) (fun i _ => n - (intOf i).toNat)
      case atStart => exact ⟨0, Nat.zero_le _, rfl, Below.refl _ _, fun h => absurd h (Nat.lt_irrefl 0), fun t ht => absurd ht (Nat.not_lt_zero t)⟩
      case round =>
        obtain ⟨j, hj, rfl, hb, hl, ha⟩ := hrel
        have HB := hd hb
        have HL := hd hl
        have HA := hd ha
        have hn24 : n ≤ 24 := by omega
        clear ha hl hb hlt h0
        by_cases hlt2 : j < n
        · have hlz : (j : Int) < (n : Int) := by omega
          have hjs : j < s.size := by omega
          obtain ⟨c, hcc⟩ : ∃ c, (s[j]'hjs).toNat = c := ⟨_, rfl⟩
          have HD := hd ((bt_eq s j hjs).symm.trans hcc)
          have hc256 : c < 256 := by rw [← HD.out]; exact bt_256 s j
          have hcs := rname_cases c j hc256
          rcases hcs with ⟨h0, h1⟩ | ⟨h0, h1⟩ | ⟨h0, h1, h2, h3⟩ | ⟨h0, h1, h2, h3, h4⟩ | ⟨h0, h1, h2, h3, h4⟩ | ⟨h0, h1, h2, h3⟩ | ⟨h0, h1, h2, h3, h4, h5⟩ | ⟨h0, h1, h2⟩ | ⟨h0, h1, h2, h3, h4, h5, h6⟩
          · go_wp2_with fail
            go_roundw
            case rel =>
              refine ⟨j + 1, by omega, by go_num, HB.out, fun _ => ?_, fun t ht => ?_⟩
              · by_cases e : j = 0
                · subst e
                  first
                    | omega
                    | (rw [HD.out]; unfold isLet; rw [decide_eq_true (show 97 ≤ c by omega), decide_eq_true (show c ≤ 122 by omega)]; rfl)
                · exact HL.out (by omega)
              · by_cases e : t = j
                · rw [e, HD.out]
                  unfold isSgn isLet
                  first
                    | (rw [decide_eq_true (show 97 ≤ c by omega), decide_eq_true (show c ≤ 122 by omega)]; rfl)
                    | (rw [decide_eq_true (show 48 ≤ c by omega), decide_eq_true (show c ≤ 57 by omega)]; simp; done)
                    | (rw [decide_eq_true (show c = 46 by omega)]; simp; done)
                    | (rw [decide_eq_true (show c = 45 by omega)]; simp; done)
                · exact HA.out t (by omega)
            case measure => simp [intOf]; omega
          · go_wp2_with fail
            go_ret
            refine VEnd.eq (VEnd.mk HB.out) ?_
            have g1 := beq_iff_eq.1 h1
            have e0 : isNm s = false := by
             refine isNm_head ?_
             have hj0 : j = 0 := by omega
             subst hj0
             rw [HD.out]
             unfold isLet
             first
               | (rw [decide_eq_false (show ¬ 97 ≤ c by omega)]; rfl)
               | (rw [decide_eq_false (show ¬ c ≤ 122 by omega)]; simp)
            rw [e0]; rfl
          · go_wp2_with fail
            go_roundw
            case rel =>
              have g1 := beq_eq_false_iff_ne.1 h1
              have g3 := bne_eq_false_iff_eq.1 h3
              refine ⟨j + 1, by omega, by go_num, HB.out, fun _ => ?_, fun t ht => ?_⟩
              · by_cases e : j = 0
                · subst e
                  first
                    | omega
                    | (rw [HD.out]; unfold isLet; rw [decide_eq_true (show 97 ≤ c by omega), decide_eq_true (show c ≤ 122 by omega)]; rfl)
                · exact HL.out (by omega)
              · by_cases e : t = j
                · rw [e, HD.out]
                  unfold isSgn isLet
                  first
                    | (rw [decide_eq_true (show 97 ≤ c by omega), decide_eq_true (show c ≤ 122 by omega)]; rfl)
                    | (rw [decide_eq_true (show 48 ≤ c by omega), decide_eq_true (show c ≤ 57 by omega)]; simp; done)
                    | (rw [decide_eq_true (show c = 46 by omega)]; simp; done)
                    | (rw [decide_eq_true (show c = 45 by omega)]; simp; done)
                · exact HA.out t (by omega)
            case measure => simp [intOf]; omega
          · go_wp2_with fail
            go_roundw
            case rel =>
              have g1 := beq_eq_false_iff_ne.1 h1
              have g3 := bne_iff_ne.1 h3
              have g4 := bne_eq_false_iff_eq.1 h4
              refine ⟨j + 1, by omega, by go_num, HB.out, fun _ => ?_, fun t ht => ?_⟩
              · by_cases e : j = 0
                · subst e
                  first
                    | omega
                    | (rw [HD.out]; unfold isLet; rw [decide_eq_true (show 97 ≤ c by omega), decide_eq_true (show c ≤ 122 by omega)]; rfl)
                · exact HL.out (by omega)
              · by_cases e : t = j
                · rw [e, HD.out]
                  unfold isSgn isLet
                  first
                    | (rw [decide_eq_true (show 97 ≤ c by omega), decide_eq_true (show c ≤ 122 by omega)]; rfl)
                    | (rw [decide_eq_true (show 48 ≤ c by omega), decide_eq_true (show c ≤ 57 by omega)]; simp; done)
                    | (rw [decide_eq_true (show c = 46 by omega)]; simp; done)
                    | (rw [decide_eq_true (show c = 45 by omega)]; simp; done)
                · exact HA.out t (by omega)
            case measure => simp [intOf]; omega
          · go_wp2_with fail
            go_ret
            refine VEnd.eq (VEnd.mk HB.out) ?_
            have g1 := beq_eq_false_iff_ne.1 h1
            have g3 := bne_iff_ne.1 h3
            have g4 := bne_iff_ne.1 h4
            have e0 : isNm s = false := by
             refine isNm_at hjs ?_
             rw [HD.out]
             unfold isSgn isLet
             rw [decide_eq_false (show ¬ c = 46 by omega), decide_eq_false (show ¬ c = 45 by omega)]
             first
               | (rw [decide_eq_false (show ¬ 97 ≤ c by omega), decide_eq_false (show ¬ 48 ≤ c by omega)]; simp; done)
               | (rw [decide_eq_false (show ¬ c ≤ 122 by omega), decide_eq_false (show ¬ c ≤ 57 by omega)]; simp; done)
               | (rw [decide_eq_false (show ¬ 97 ≤ c by omega), decide_eq_false (show ¬ c ≤ 57 by omega)]; simp; done)
            rw [e0]; rfl
          · go_wp2_with fail
            go_roundw
            case rel =>
              have g1 := beq_eq_false_iff_ne.1 h1
              refine ⟨j + 1, by omega, by go_num, HB.out, fun _ => ?_, fun t ht => ?_⟩
              · by_cases e : j = 0
                · subst e
                  first
                    | omega
                    | (rw [HD.out]; unfold isLet; rw [decide_eq_true (show 97 ≤ c by omega), decide_eq_true (show c ≤ 122 by omega)]; rfl)
                · exact HL.out (by omega)
              · by_cases e : t = j
                · rw [e, HD.out]
                  unfold isSgn isLet
                  first
                    | (rw [decide_eq_true (show 97 ≤ c by omega), decide_eq_true (show c ≤ 122 by omega)]; rfl)
                    | (rw [decide_eq_true (show 48 ≤ c by omega), decide_eq_true (show c ≤ 57 by omega)]; simp; done)
                    | (rw [decide_eq_true (show c = 46 by omega)]; simp; done)
                    | (rw [decide_eq_true (show c = 45 by omega)]; simp; done)
                · exact HA.out t (by omega)
            case measure => simp [intOf]; omega
          · go_wp2_with fail
            go_ret
            refine VEnd.eq (VEnd.mk HB.out) ?_
            have g1 := beq_eq_false_iff_ne.1 h1
            have g4 := bne_iff_ne.1 h4
            have g5 := bne_iff_ne.1 h5
            have e0 : isNm s = false := by
             refine isNm_at hjs ?_
             rw [HD.out]
             unfold isSgn isLet
             rw [decide_eq_false (show ¬ c = 46 by omega), decide_eq_false (show ¬ c = 45 by omega)]
             first
               | (rw [decide_eq_false (show ¬ 97 ≤ c by omega), decide_eq_false (show ¬ 48 ≤ c by omega)]; simp; done)
               | (rw [decide_eq_false (show ¬ c ≤ 122 by omega), decide_eq_false (show ¬ c ≤ 57 by omega)]; simp; done)
               | (rw [decide_eq_false (show ¬ 97 ≤ c by omega), decide_eq_false (show ¬ c ≤ 57 by omega)]; simp; done)
            rw [e0]; rfl
          · go_wp2_with fail
            go_ret
            refine VEnd.eq (VEnd.mk HB.out) ?_
            have g2 := beq_iff_eq.1 h2
            have e0 : isNm s = false := by
             refine isNm_head ?_
             have hj0 : j = 0 := by omega
             subst hj0
             rw [HD.out]
             unfold isLet
             first
               | (rw [decide_eq_false (show ¬ 97 ≤ c by omega)]; rfl)
               | (rw [decide_eq_false (show ¬ c ≤ 122 by omega)]; simp)
            rw [e0]; rfl
          · go_wp2_with fail
            go_ret
            refine VEnd.eq (VEnd.mk HB.out) ?_
            have g2 := beq_eq_false_iff_ne.1 h2
            have g5 := bne_iff_ne.1 h5
            have g6 := bne_iff_ne.1 h6
            have e0 : isNm s = false := by
             refine isNm_at hjs ?_
             rw [HD.out]
             unfold isSgn isLet
             rw [decide_eq_false (show ¬ c = 46 by omega), decide_eq_false (show ¬ c = 45 by omega)]
             first
               | (rw [decide_eq_false (show ¬ 97 ≤ c by omega), decide_eq_false (show ¬ 48 ≤ c by omega)]; simp; done)
               | (rw [decide_eq_false (show ¬ c ≤ 122 by omega), decide_eq_false (show ¬ c ≤ 57 by omega)]; simp; done)
               | (rw [decide_eq_false (show ¬ 97 ≤ c by omega), decide_eq_false (show ¬ c ≤ 57 by omega)]; simp; done)
            rw [e0]; rfl
        · have hjn : ¬ (j : Int) < (n : Int) := by omega
          have HB2 := hd (isNm_true H1.out H2.out (HL.out (by have := HN.out; have := H1.out; omega)) (fun t ht => HA.out t (by have := HN.out; omega)))
          go_wp2_with fail
          go_ret
          exact VEnd.eq (VEnd.mk HB.out) (by rw [HB2.out]; rfl)
    · have HL := hd (isNm_long h2)
      have hlt : (24 : Int) < (s.size : Int) := by omega
      have h0 : ¬ (s.size : Int) < 1 := by omega
      clear h2 h1
      go_enter Try.func32, Try.ntmps32
      go_wp2_with fail
      go_ret
      exact VEnd.eq (VEnd.mk (Below.refl _ _)) (by rw [HL.out]; rfl)
  · have HL := hd (isNm_empty h1)
    have h0 : (s.size : Int) < 1 := by omega
    clear h1
    go_enter Try.func32, Try.ntmps32
    go_wp2_with fail
    go_ret
    exact VEnd.eq (VEnd.mk (Below.refl _ _)) (by rw [HL.out]; rfl)

end Go.Proofs.Yteifaipbckhoiaa
