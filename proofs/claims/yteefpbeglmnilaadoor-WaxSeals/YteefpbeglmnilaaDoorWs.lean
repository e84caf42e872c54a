/- Whether two rows of bytes are the same. -/
import Derived.Test.YteefpbeglmnilaaDoorWo
namespace Go.Proofs.YteefpbeglmnilaaDoor
open Go.RowKit
set_option linter.unusedVariables false

theorem or8 (x y : Int) (hx : 0 ≤ x ∧ x ≤ 255) (hy : 0 ≤ y ∧ y ≤ 255) : (0 ≤ bits .or .u8 x y ∧ bits .or .u8 x y ≤ 255) ∧ (bits .or .u8 x y = 0 ↔ x = 0 ∧ y = 0) := by
  obtain ⟨a, rfl⟩ := Int.eq_ofNat_of_zero_le hx.1
  obtain ⟨b, rfl⟩ := Int.eq_ofNat_of_zero_le hy.1
  rw [u8_or_nat a b (by omega) (by omega)]
  have hlt : a ||| b < 2 ^ 8 := Nat.or_lt_two_pow (by omega) (by omega)
  refine ⟨by omega, ?_⟩
  have h1 : a ≤ a ||| b := Nat.left_le_or
  have h2 : b ≤ a ||| b := Nat.right_le_or
  constructor
  · intro h; omega
  · rintro ⟨h3, h4⟩
    have e1 : a = 0 := by omega
    have e2 : b = 0 := by omega
    rw [e1, e2]; rfl
theorem xor8_zero (x y : Int) (hx : 0 ≤ x ∧ x ≤ 255) (hy : 0 ≤ y ∧ y ≤ 255) : bits .xor .u8 x y = 0 ↔ x = y := by
  obtain ⟨a, rfl⟩ := Int.eq_ofNat_of_zero_le hx.1
  obtain ⟨b, rfl⟩ := Int.eq_ofNat_of_zero_le hy.1
  rw [u8_xor_nat a b (by omega) (by omega)]
  constructor
  · intro h
    have h0 : a ^^^ b = 0 := by omega
    have : a = b := by
      have e : a ^^^ b ^^^ b = b := by rw [h0, Nat.zero_xor]
      rw [Nat.xor_assoc, Nat.xor_self, Nat.xor_zero] at e
      exact e
    rw [this]
  · intro h
    have : a = b := by omega
    rw [this, Nat.xor_self]; rfl

theorem take_both (a b : List Int) (k : Nat) (ha : k < a.length) (hb : k < b.length) : a.take (k + 1) = b.take (k + 1) ↔ a.take k = b.take k ∧ a.getD k 0 = b.getD k 0 := by
  rw [List.take_succ_eq_append_getElem ha, List.take_succ_eq_append_getElem hb]
  have ea : a.getD k 0 = a[k] := by rw [List.getD_eq_getElem?_getD, List.getElem?_eq_getElem ha]; rfl
  have eb : b.getD k 0 = b[k] := by rw [List.getD_eq_getElem?_getD, List.getElem?_eq_getElem hb]; rfl
  rw [ea, eb]
  constructor
  · intro h
    have := List.append_inj h (by rw [List.length_take, List.length_take]; omega)
    exact ⟨this.1, by simpa using this.2⟩
  · rintro ⟨h1, h2⟩
    rw [h1, h2]

/-- What is unlike in the first k bytes. -/
def Unl (a b : List Int) (k : Nat) (x : Int) : Prop := (0 ≤ x ∧ x ≤ 255) ∧ (x = 0 ↔ a.take k = b.take k)
theorem Unl.next {a b : List Int} {k : Nat} {x : Int} (h : Unl a b k x) (ha : k < a.length) (hb : k < b.length) (ba : Byt a) (bb : Byt b) : Unl a b (k + 1) (bits .or .u8 x (bits .xor .u8 (a.getD k 0) (b.getD k 0))) := by
  have hx := xor8 _ _ (ba.get k) (bb.get k)
  have ho := or8 x _ h.1 hx
  exact ⟨ho.1, by rw [ho.2, xor8_zero _ _ (ba.get k) (bb.get k), h.2, take_both a b k ha hb]⟩

set_option maxRecDepth 100000 in
set_option maxHeartbeats 1000000 in
theorem same_ok {w : World} {u v : Value} {a b : List Int} (hu : Sl w u a) (hv : Sl w v b) (ba : Byt a) (bb : Byt b) (hla : a.length ≤ 140737488355328) :
    Calls Tryd.prog 11 #[u, v] w fun e w' => e = .returned (.bool (decide (a = b))) ∧ w' = w := by
  obtain ⟨x, cx, rfl⟩ := hu.form
  obtain ⟨y, cy, rfl⟩ := hv.form
  have HU := hd hu
  have HV := hd hv
  clear hu hv
  by_cases hlen : a.length = b.length
  · have HE := hd hlen
    rw [← hlen] at HV ⊢
    have HLn : ∃ n, a.length = n := ⟨_, rfl⟩
    obtain ⟨n, hn⟩ := HLn
    rw [hn] at HU HV hla ⊢
    have HN := hd hn
    clear hn hlen
    go_enter Tryd.func11, Tryd.ntmps11
    go_wp2_with fail
    go_loopw [5, 15] (fun z i wr => ∃ (k : Nat) (q : Int), k ≤ n ∧ i = .int .i64 (k : Int) ∧ z = .int .u8 q ∧ Unl a b k q ∧ wr = w) (fun z i _ => n - (intOf i).toNat)
    case atStart => exact ⟨0, 0, Nat.zero_le _, rfl, rfl, ⟨by decide, by simp⟩, rfl⟩
    case round =>
      obtain ⟨k, q, hk, rfl, rfl, hq, rfl⟩ := hrel
      have HQ := hd hq
      clear hq
      by_cases hlt : k < n
      · have hlt' : (k : Int) < (n : Int) := by omega
        have ha : k < a.length := by rw [HN.out]; exact hlt
        have hb : k < b.length := by rw [← HE.out, HN.out]; exact hlt
        rcases HU.out with ⟨h0, _⟩ | ⟨g, off, cap, e1, _, hc1, _, _, hcell⟩
        · rw [h0] at ha; simp at ha
        rcases HV.out with ⟨h0, _⟩ | ⟨g', off', cap', e2, _, hc2, _, _, hcell'⟩
        · rw [h0] at hb; simp at hb
        injection e1 with e1 _ e3
        injection e2 with e2 _ e4
        subst e1 e2 e3 e4
        have c1 := hcell k ha
        have c2 := hcell' k hb
        have NX := hd (HQ.out.next ha hb ba bb)
        rw [HN.out] at hc1
        rw [← HE.out, HN.out] at hc2
        clear hcell hcell' ha hb
        generalize a.getD k 0 = α at *
        generalize b.getD k 0 = β at *
        go_wp2_with fail
        go_roundw
        case rel => exact ⟨k + 1, _, by omega, by go_num, rfl, NX.out, trivial⟩
        case measure => simp [intOf]; omega
      · have hkn : k = n := by omega
        subst hkn
        have hnl : ¬ (k : Int) < (k : Int) := by omega
        have hiff := HQ.out.2
        rw [List.take_of_length_le (by rw [HN.out]; exact Nat.le_refl _), List.take_of_length_le (by rw [← HE.out, HN.out]; exact Nat.le_refl _)] at hiff
        have HI := hd hiff
        clear hiff
        by_cases hq0 : q = 0
        · subst hq0
          have E : Hid (decide (a = b) = true) := hd (decide_eq_true (HI.out.1 rfl))
          go_wp2_with fail
          go_ret
          exact ⟨by rw [E.out]; rfl, rfl⟩
        · have E : Hid (decide (a = b) = false) := hd (decide_eq_false (fun h => hq0 (HI.out.2 h)))
          have hq1 : (q == 0) = false := by simpa using hq0
          go_wp2_with fail
          go_ret
          exact ⟨by rw [E.out]; rfl, rfl⟩
  · have E : Hid (decide (a = b) = false) := hd (decide_eq_false (fun h => hlen (by rw [h])))
    generalize decide (a = b) = t at *
    have hne : ¬ ((a.length : Nat) : Int) = ((b.length : Nat) : Int) := by omega
    generalize a.length = n at *
    generalize b.length = m at *
    have hne' : (((n : Nat) : Int) == (m : Int)) = false := by simpa using hne
    clear hlen
    go_enter Tryd.func11, Tryd.ntmps11
    go_wp2_with fail
    go_ret
    exact ⟨by rw [E.out]; rfl, rfl⟩
end Go.Proofs.YteefpbeglmnilaaDoor
