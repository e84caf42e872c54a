/- Names that may be, both sides; rules and readers that may be. -/
import Derived.Test.YtcigbfjmnhogiabGreatDoorSc
import Derived.Test.YtcigbfjmnhogiabGreatDoorPol
namespace Go.Proofs.YtcigbfjmnhogiabGreatDoor
open Go.RowKit
set_option linter.unusedVariables false

def isLet (c : Nat) : Bool := decide (97 ≤ c) && decide (c ≤ 122)
def isSgn (c : Nat) : Bool := isLet c || (decide (48 ≤ c) && decide (c ≤ 57)) || decide (c = 46) || decide (c = 45)
/-- May it be a name? -/
def isNm (s : ByteArray) : Bool := decide (1 ≤ s.size) && decide (s.size ≤ 24) && isLet (bt s 0) && s.data.toList.all fun b => isSgn b.toNat

def letsB : ByteArray := ⟨#[97, 98, 99, 100, 101, 102, 103, 104, 105, 106, 107, 108, 109, 110, 111, 112, 113, 114, 115, 116, 117, 118, 119, 120, 121, 122]⟩
def sgnsB : ByteArray := ⟨#[97, 98, 99, 100, 101, 102, 103, 104, 105, 106, 107, 108, 109, 110, 111, 112, 113, 114, 115, 116, 117, 118, 119, 120, 121, 122, 48, 49, 50, 51, 52, 53, 54, 55, 56, 57, 46, 45]⟩

theorem lets_ix : ∀ c : Fin 256, decide (firstIdx letsB c.val.toUInt8 < 0) = !isLet c.val := by decide +kernel
theorem sgns_ix : ∀ c : Fin 256, decide (firstIdx sgnsB c.val.toUInt8 < 0) = !isSgn c.val := by decide +kernel

theorem let_ix (c : Nat) (h : c < 256) : ∃ k, firstIdx letsB (c : Int).toNat.toUInt8 = k ∧ (decide (k < 0)) = !isLet c := ⟨_, rfl, lets_ix ⟨c, h⟩⟩
theorem sgn_ix (c : Nat) (h : c < 256) : ∃ k, firstIdx sgnsB (c : Int).toNat.toUInt8 = k ∧ (decide (k < 0)) = !isSgn c := ⟨_, rfl, sgns_ix ⟨c, h⟩⟩

theorem let_sgn {c : Nat} (h : isLet c = true) : isSgn c = true := by unfold isSgn; rw [h]; rfl

theorem all_sgn (s : ByteArray) : (s.data.toList.all fun b => isSgn b.toNat) = true ↔ ∀ j, j < s.size → isSgn (bt s j) = true := by
  rw [List.all_eq_true]
  constructor
  · intro h j hj
    rw [← bt_eq s j hj]
    exact h _ (Array.getElem_mem_toList (xs := s.data) hj)
  · intro h b hb
    obtain ⟨j, hj, rfl⟩ := List.getElem_of_mem hb
    have hj' : j < s.size := by simpa using hj
    have := h j hj'
    rw [← bt_eq s j hj'] at this
    exact this

theorem isNm_true {s : ByteArray} (h1 : 1 ≤ s.size) (h2 : s.size ≤ 24) (h3 : isLet (bt s 0) = true) (h4 : ∀ j, j < s.size → isSgn (bt s j) = true) : isNm s = true := by
  unfold isNm
  rw [decide_eq_true h1, decide_eq_true h2, h3, (all_sgn s).2 h4]
  rfl
theorem isNm_long {s : ByteArray} (h : ¬ s.size ≤ 24) : isNm s = false := by unfold isNm; rw [decide_eq_false h]; simp
theorem isNm_empty {s : ByteArray} (h : ¬ 1 ≤ s.size) : isNm s = false := by unfold isNm; rw [decide_eq_false h]; rfl
theorem isNm_head {s : ByteArray} (h : isLet (bt s 0) = false) : isNm s = false := by unfold isNm; rw [h]; simp
theorem isNm_at {s : ByteArray} {j : Nat} (hj : j < s.size) (h : isSgn (bt s j) = false) : isNm s = false := by
  cases hh : isNm s
  · rfl
  · unfold isNm at hh
    rw [Bool.and_eq_true] at hh
    have := (all_sgn s).1 hh.2 j hj
    rw [h] at this
    cases this
theorem isNm_size {s : ByteArray} (h : isNm s = true) : 1 ≤ s.size ∧ s.size ≤ 24 := by
  unfold isNm at h
  simp only [Bool.and_eq_true, decide_eq_true_eq] at h
  exact ⟨h.1.1.1, h.1.1.2⟩

theorem bt_256 (s : ByteArray) (k : Nat) : bt s k < 256 := (s.data.toList.getD k 0).toNat_lt

theorem str_none {s : ByteArray} (h : ¬ 1 ≤ s.size) : s = ⟨#[]⟩ := by
  obtain ⟨⟨l⟩⟩ := s
  match l, h with
  | [], _ => rfl
  | a :: r, h => exact absurd (show 1 ≤ (⟨⟨a :: r⟩⟩ : ByteArray).size from (by show 1 ≤ (a :: r).length; simp)) h
theorem str_some' {s : ByteArray} (h : 1 ≤ s.size) : s.toList.isEmpty = false := by
  rw [ByteArray.toList_eq]
  obtain ⟨⟨l⟩⟩ := s
  match l, h with
  | a :: r, _ => rfl

set_option maxRecDepth 100000 in
set_option maxHeartbeats 1000000 in
theorem isname_any (s : ByteArray) (w : World) : Calls Tryz.prog 5 #[.string s] w fun e w' => VEnd w (.bool (isNm s)) e w' := by
  by_cases h1 : 1 ≤ s.size
  · have he := str_some' h1
    by_cases h2 : s.size ≤ 24
    · obtain ⟨k, hk, hkl⟩ := let_ix (bt s 0) (bt_256 s 0)
      have H2 := hd h2
      have H1 := hd h1
      obtain ⟨n, hn⟩ : ∃ n, s.size = n := ⟨_, rfl⟩
      have hlt : ¬ (24 : Int) < (n : Int) := by omega
      have h0 : (0 : Int) < (n : Int) := by omega
      have hs0 : 0 < s.size := by omega
      obtain ⟨c, hc⟩ : ∃ c, (s[0]'hs0).toNat = c := ⟨_, rfl⟩
      have hcb := hd ((bt_eq s 0 hs0).symm.trans hc)
      have HK := hd hk
      rw [hcb.out] at HK
      cases hl : isLet (bt s 0)
      · have hk0 : k < 0 := by rw [hl] at hkl; simpa using hkl
        have HL := hd (isNm_head hl)
        clear hl hkl hk h1 h2
        go_enter Tryz.func5, Tryz.ntmps5
        go_wp2_with (first | (go_at_call 17; refine (sidxb _ _ k _ HK.out).mono ?_; rintro e w' ⟨rfl, rfl⟩) | fail)
        go_ret
        exact VEnd.eq (VEnd.mk (Below.refl _ _)) (by rw [HL.out]; rfl)
      · have hk0 : ¬ k < 0 := by rw [hl] at hkl; simpa using hkl
        have HL := hd hl
        have HN := hd hn
        clear hl hkl hk h1 h2
        go_enter Tryz.func5, Tryz.ntmps5
        go_wp2_with (first | (go_at_call 17; refine (sidxb _ _ k _ HK.out).mono ?_; rintro e w' ⟨rfl, rfl⟩) | fail)
        go_loopw [19] (fun i wr => ∃ j : Nat, j ≤ n ∧ i = .int .i64 (j : Int) ∧ wr = w' ∧ ∀ t, t < j → isSgn (bt s t) = true) (fun i _ => n - (intOf i).toNat)
        case atStart => exact ⟨0, Nat.zero_le _, rfl, by first | exact True.intro | rfl, fun t ht => absurd ht (Nat.not_lt_zero t)⟩
        case round =>
          obtain ⟨j, hj, rfl, rfl, ha⟩ := hrel
          have HA := hd ha
          clear ha
          by_cases hlt2 : j < n
          · have hlz : (j : Int) < (n : Int) := by omega
            have hjs : j < s.size := by omega
            obtain ⟨d, hdd⟩ : ∃ d, (s[j]'hjs).toNat = d := ⟨_, rfl⟩
            have HD := hd ((bt_eq s j hjs).symm.trans hdd)
            obtain ⟨q, hq, hql⟩ := sgn_ix d (by rw [← HD.out]; exact bt_256 s j)
            have HQ := hd hq
            cases hs : isSgn d
            · have hq0 : q < 0 := by rw [hs] at hql; simpa using hql
              have HB := hd (isNm_at hjs (by rw [HD.out]; exact hs))
              clear hs hql hq
              go_wp2_with (first | (go_at_call 17; refine (sidxb _ _ q _ HQ.out).mono ?_; rintro e w' ⟨rfl, rfl⟩) | fail)
              go_ret
              exact VEnd.eq (VEnd.mk (Below.refl _ _)) (by rw [HB.out]; rfl)
            · have hq0 : ¬ q < 0 := by rw [hs] at hql; simpa using hql
              have HS := hd hs
              clear hs hql hq
              go_wp2_with (first | (go_at_call 17; refine (sidxb _ _ q _ HQ.out).mono ?_; rintro e w' ⟨rfl, rfl⟩) | fail)
              go_roundw
              case rel =>
                refine ⟨j + 1, by omega, by go_num, by first | exact True.intro | rfl, fun t ht => ?_⟩
                by_cases e : t = j
                · rw [e, HD.out]; exact HS.out
                · exact HA.out t (by omega)
              case measure => simp [intOf]; omega
          · have hjn : ¬ (j : Int) < (n : Int) := by omega
            have HB := hd (isNm_true H1.out H2.out HL.out (fun t ht => HA.out t (by have := HN.out; omega)))
            go_wp2_with fail
            go_ret
            exact VEnd.eq (VEnd.mk (Below.refl _ _)) (by rw [HB.out]; rfl)
    · have HL := hd (isNm_long h2)
      have hlt : (24 : Int) < (s.size : Int) := by omega
      clear h2 h1
      go_enter Tryz.func5, Tryz.ntmps5
      go_wp2_with fail
      go_ret
      exact VEnd.eq (VEnd.mk (Below.refl _ _)) (by rw [HL.out]; rfl)
  · have HL := hd (isNm_empty h1)
    have := str_none h1
    subst this
    clear h1
    go_enter Tryz.func5, Tryz.ntmps5
    go_wp2_with fail
    go_ret
    exact VEnd.eq (VEnd.mk (Below.refl _ _)) (by rw [HL.out]; rfl)

end Go.Proofs.YtcigbfjmnhogiabGreatDoor
