/- The document's reader: Raw and Text. -/
import Derived.Test.YtdjpdllgifdhaaaNy
namespace Go.Proofs.Ytdjpdllgifdhaaa
open Go.RowKit
variable {XB : Nat}
set_option linter.unusedVariables false

/-- What taking n bytes off tells of the document's reader: the bytes, what it has, its error. -/
def xRaw (n : Int) (l : List Int) (e : Int) : List Int × List Int × Int :=
  if e ≠ 0 then ([], l, e) else if n < 0 then ([], l, 2) else if (l.length : Int) < n then ([], l, 3) else (l.take n.toNat, l.drop n.toNat, 0)

/-- What taking a text off tells of it. -/
def xText (most : Int) (l : List Int) (e : Int) : List Int × List Int × Int :=
  if (xStep 9007199254740991 l e).2.2 ≠ 0 then ([], (xStep 9007199254740991 l e).2.1, (xStep 9007199254740991 l e).2.2)
  else if most < (xStep 9007199254740991 l e).1 then ([], (xStep 9007199254740991 l e).2.1, 5)
  else xRaw (xStep 9007199254740991 l e).1 (xStep 9007199254740991 l e).2.1 0

def XTake (XB : Nat) (w : World) (xb : Nat) (r : List Int × List Int × Int) (e : Ending) (w' : World) : Prop :=
  ∃ a cap, e = .returned (.slice a r.1.length cap) ∧ Bs (fun b => w.heap.size ≤ b) w' (.slice a r.1.length cap) r.1 ∧ Rx XB w' xb r.2.1 r.2.2 ∧ Kp (fun b => b = xb) w w'

theorem XTake.none {w w' : World} {xb : Nat} {l : List Int} {e : Int} (h : Rx XB w' xb l e) (k : Kp (fun b => b = xb) w w') : XTake XB w xb ([], l, e) (.returned (.slice none 0 0)) w' :=
  ⟨_, 0, rfl, Bs.ofNil _ _, h, k⟩

set_option maxHeartbeats 400000 in
theorem rawX_err {w : World} {xb : Nat} {l : List Int} {e0 : Int} (h : Rx XB w xb l e0) (he : e0 ≠ 0) (n : Int) (hn : 0 ≤ n) :
    Calls Try.prog 26 #[.pointer (some ⟨xb, 0, none⟩), .int .i64 n] w fun e w' => e = .returned (.slice none 0 0) ∧ w' = w := by
  have h1 := h.err
  have q1 : (e0 == 0) = false := by rw [beq_eq_false_iff_ne]; exact he
  have q2 : (e0 != 0) = true := by rw [bne_iff_ne]; exact he
  clear h he
  go_enter Try.func26, Try.ntmps26
  go_wp2
  go_ret
  exact ⟨rfl, rfl⟩

set_option maxHeartbeats 400000 in
theorem rawX_neg {w : World} {xb : Nat} {l : List Int} {e0 : Int} (h : Rx XB w xb l e0) (he : e0 ≠ 0) (n : Int) (hn : n < 0) :
    Calls Try.prog 26 #[.pointer (some ⟨xb, 0, none⟩), .int .i64 n] w fun e w' => e = .returned (.slice none 0 0) ∧ w' = w := by
  have h1 := h.err
  have H := hd h
  have HE := hd he
  have q1 : (e0 == 0) = false := by rw [beq_eq_false_iff_ne]; exact he
  have q2 : (e0 != 0) = true := by rw [bne_iff_ne]; exact he
  clear h he
  go_enter Try.func26, Try.ntmps26
  go_wp2_with (go_at_call 28; refine (FailX_old H.out HE.out 2).mono ?_; rintro e w1 ⟨rfl, rfl⟩)
  go_ret
  exact ⟨rfl, rfl⟩

set_option maxHeartbeats 400000 in
theorem rawX_neg0 {w : World} {xb : Nat} {l : List Int} (h : Rx XB w xb l 0) (n : Int) (hn : n < 0) :
    Calls Try.prog 26 #[.pointer (some ⟨xb, 0, none⟩), .int .i64 n] w fun e w' => e = .returned (.slice none 0 0) ∧ w' = w.setCell ⟨xb, 1, none⟩ (.int .i64 2) := by
  have H := hd h
  have h1 : (w.setCell ⟨xb, 1, none⟩ (.int .i64 2)).cell? ⟨xb, 1, none⟩ = some (.int .i64 2) := (h.setE 2).err
  clear h
  go_enter Try.func26, Try.ntmps26
  go_wp2_with (go_at_call 28; refine (FailX_new H.out 2).mono ?_; rintro e w1 ⟨rfl, rfl⟩)
  go_ret
  exact ⟨rfl, rfl⟩

set_option maxHeartbeats 400000 in
theorem rawX_much {w : World} {xb k : Nat} {l : List Int} (h : Rx XB w xb l 0) (hk : l.length = k) (n : Int) (hn : 0 ≤ n) (hs : (k : Int) < n) :
    Calls Try.prog 26 #[.pointer (some ⟨xb, 0, none⟩), .int .i64 n] w fun e w' => e = .returned (.slice none 0 0) ∧ w' = w.setCell ⟨xb, 1, none⟩ (.int .i64 3) := by
  obtain ⟨v, h2, h3⟩ := h.left
  obtain ⟨a, cap, rfl⟩ := h3.len
  rw [hk] at h2
  have h1 := h.err
  have h4 := h.free1
  clear h h3 hk
  go_enter Try.func26, Try.ntmps26
  go_wp2
  go_ret
  exact ⟨rfl, rfl⟩

def XSome (w : World) (xb b off cap n k : Nat) (l : List Int) (e : Ending) (w' : World) : Prop :=
  ∃ a c w1 a', e = .returned (.slice a n c) ∧ w' = w1.setCell ⟨xb, 0, none⟩ (.slice a' (k - n) (cap - n)) ∧
      (n < k → a' = some ⟨b, off + n, none⟩) ∧ (a' = some ⟨b, off, none⟩ ∨ a' = some ⟨b, off + n, none⟩) ∧
      Bs (fun b => w.heap.size ≤ b) w1 (.slice a n c) l ∧ Below w.heap.size w w1

set_option maxHeartbeats 1000000 in
theorem rawX_some {w : World} {xb b off cap n k : Nat} (hc : k ≤ cap) (hn : n ≤ k) (hxb : xb < w.heap.size)
    (hc0 : w.cell? ⟨xb, 0, none⟩ = some (.slice (some ⟨b, off, none⟩) k cap)) (hc1 : w.cell? ⟨xb, 1, none⟩ = some (.int .i64 0)) (hf0 : w.frozen? ⟨xb, 0, none⟩ = false) {l : List Int}
    (h : Bs (fun _ => True) w (.slice (some ⟨b, off, none⟩) n cap) l) (hlen : l.length = n) :
    Calls Try.prog 26 #[.pointer (some ⟨xb, 0, none⟩), .int .i64 n] w fun e w' => XSome w xb b off cap n k l e w' := by
  have H := hd h
  have HL := hd hlen
  clear h hlen
  have hn' : (n : Int) ≤ (k : Int) := by omega
  have hc' : (k : Int) ≤ (cap : Int) := by omega
  go_enter Try.func26, Try.ntmps26
  go_wp2_with fail
  refine (copy_bs H.out).mono ?_
  rintro e w1 ⟨a, c, rfl, hb1, hf, hk⟩
  rw [HL.out] at hb1 ⊢
  have HB := hd hb1
  have HW := hd hk
  have hd1 : w1.cell? ⟨xb, 0, none⟩ = some (.slice (some ⟨b, off, none⟩) k cap) := (hk.cell (p := ⟨xb, 0, none⟩) hxb).trans hc0
  have hd2 : w1.frozen? ⟨xb, 0, none⟩ = false := (hk.frozen (p := ⟨xb, 0, none⟩) hxb).trans hf0
  clear hb1 hf hk
  go_wp2
  all_goals go_ret
  · exact ⟨a, c, w1, _, rfl, by rw [Nat.sub_self], fun h => by omega, Or.inl rfl, HB.out, HW.out⟩
  · exact ⟨a, c, w1, _, rfl, rfl, fun h => rfl, Or.inr rfl, HB.out, HW.out⟩

set_option maxHeartbeats 1000000 in
theorem rawX_nil {w : World} {xb : Nat} (hc0 : w.cell? ⟨xb, 0, none⟩ = some (.slice none 0 0)) (hc1 : w.cell? ⟨xb, 1, none⟩ = some (.int .i64 0)) (hf0 : w.frozen? ⟨xb, 0, none⟩ = false) :
    Calls Try.prog 26 #[.pointer (some ⟨xb, 0, none⟩), .int .i64 0] w fun e w' => e = .returned (.slice none 0 0) ∧ w' = w.setCell ⟨xb, 0, none⟩ (.slice none 0 0) := by
  have HR := hd (append_nil_none (P := Try.prog) (w := w) (t := 22) (tx := 22) (ty := 22) Try.underlying22 i5 (x := .slice none 0 0) (by rw [s5]; exact Src.ofNil w Try.underlying22 0))
  go_enter Try.func26, Try.ntmps26
  go_wp2_with (go_at_call 17; refine (copy_run _ _ _ _ HR.out).mono ?_; rintro e w1 ⟨rfl, rfl⟩)
  go_ret
  exact ⟨rfl, rfl⟩

theorem rawX_any {w : World} {xb : Nat} {l : List Int} {e0 : Int} (h : Rx XB w xb l e0) (n : Int) :
    Calls Try.prog 26 #[.pointer (some ⟨xb, 0, none⟩), .int .i64 n] w fun e w' => XTake XB w xb (xRaw n l e0) e w' := by
  unfold xRaw
  by_cases he : e0 ≠ 0
  · rw [if_pos he]
    by_cases hn : n < 0
    · refine (rawX_neg h he n hn).mono ?_
      rintro e w' ⟨rfl, rfl⟩
      exact XTake.none h (Kp.refl _ _)
    · refine (rawX_err h he n (by omega)).mono ?_
      rintro e w' ⟨rfl, rfl⟩
      exact XTake.none h (Kp.refl _ _)
  · rw [if_neg he]
    have he' : e0 = 0 := by simpa using he
    subst he'
    by_cases hn : n < 0
    · rw [if_pos hn]
      refine (rawX_neg0 h n hn).mono ?_
      rintro e w' ⟨rfl, rfl⟩
      exact XTake.none (h.setE 2) (kp_one _ _ _ _)
    · rw [if_neg hn]
      by_cases hs : (l.length : Int) < n
      · rw [if_pos hs]
        refine (rawX_much h rfl n (by omega) hs).mono ?_
        rintro e w' ⟨rfl, rfl⟩
        exact XTake.none (h.setE 3) (kp_one _ _ _ _)
      · rw [if_neg hs]
        obtain ⟨m, rfl⟩ := Int.eq_ofNat_of_zero_le (by omega : 0 ≤ n)
        have hm : m ≤ l.length := by omega
        have hlen : (l.take m).length = m := by rw [List.length_take]; omega
        obtain ⟨v, hv, hbs⟩ := h.left
        obtain ⟨h1, h2, h3⟩ := hbs
        rw [Int.toNat_natCast]
        rcases h3 with ⟨rfl, rfl⟩ | ⟨b, off, cap, rfl, hc, hA, hlt, hcell⟩
        · have hm0 : m = 0 := by simpa using hm
          subst hm0
          refine (rawX_nil hv h.err h.free0).mono ?_
          rintro e w' ⟨rfl, rfl⟩
          exact ⟨none, 0, rfl, Bs.ofNil _ _, h.setB (Bs.ofNil _ _), kp_one _ _ _ _⟩
        · refine (rawX_some hc hm h.lt hv h.err h.free0 (Bs.front h1 h2 hc trivial hlt hcell hm) hlen).mono ?_
          rintro e w' ⟨a, c, w1, a', rfl, rfl, ha, ha', hb1, hk⟩
          have hkp := kp_one w1 xb 0 (.slice a' (l.length - m) (cap - m))
          refine ⟨a, c, by rw [hlen], ?_, ?_, ?_⟩
          · rw [hlen]; exact hb1.keep hkp (fun b _ hb e => by have := h.lt; have e' : b = xb := e; omega)
          · refine (h.keepB hk).setB ?_
            exact Bs.rest (A := fun b => XB ≤ b ∧ b < xb) (w := w1) (b := b) (off := off) (k := m) h1 h2 hc hA (Nat.lt_of_lt_of_le hlt hk.size) (fun i hi => (hk.cell (p := ⟨b, off + i, none⟩) hlt).trans (hcell i hi)) hm ha ha'
          · exact (kpB hk (fun b => b = xb)).trans hkp

def XText (XB : Nat) (w : World) (xb : Nat) (r : List Int × List Int × Int) (e : Ending) (w' : World) : Prop :=
  e = .returned (.string (strOfNums r.1)) ∧ Rx XB w' xb r.2.1 r.2.2 ∧ Kp (fun b => b = xb) w w'

set_option maxHeartbeats 400000 in
theorem textX_err {w : World} {xb : Nat} {l l1 : List Int} {e0 n e1 : Int} (h : Rx XB w xb l e0) (most : Int) (hs : xStep 9007199254740991 l e0 = (n, l1, e1)) (he : e1 ≠ 0) :
    Calls Try.prog 24 #[.pointer (some ⟨xb, 0, none⟩), .int .i64 most] w fun e w' => XText XB w xb ([], l1, e1) e w' := by
  have H := hd h
  have HS := hd hs
  have q1 : (e1 == 0) = false := by rw [beq_eq_false_iff_ne]; exact he
  have q2 : (e1 != 0) = true := by rw [bne_iff_ne]; exact he
  clear h hs he
  go_enter Try.func24, Try.ntmps24
  go_wp2_with fail
  refine (UX_is H.out HS.out).mono ?_
  rintro e w1 ⟨rfl, hr, hk⟩
  have hce := hr.err
  have HR := hd hr
  have HKP := hd hk
  clear hr hk
  go_wp2
  go_ret
  exact ⟨rfl, HR.out, HKP.out⟩

set_option maxHeartbeats 400000 in
theorem textX_much {w : World} {xb : Nat} {l l1 : List Int} {e0 n : Int} (h : Rx XB w xb l e0) (most : Int) (hs : xStep 9007199254740991 l e0 = (n, l1, 0)) (hm : most < n) :
    Calls Try.prog 24 #[.pointer (some ⟨xb, 0, none⟩), .int .i64 most] w fun e w' => XText XB w xb ([], l1, 5) e w' := by
  have H := hd h
  have HS := hd hs
  clear h hs
  go_enter Try.func24, Try.ntmps24
  go_wp2_with fail
  refine (UX_is H.out HS.out).mono ?_
  rintro e w1 ⟨rfl, hr, hk⟩
  have hce := hr.err
  have hcf := hr.free1
  have hc5 : (w1.setCell ⟨xb, 1, none⟩ (.int .i64 5)).cell? ⟨xb, 1, none⟩ = some (.int .i64 5) := (hr.setE 5).err
  have HR := hd hr
  have HKP := hd hk
  clear hr hk
  go_wp2
  go_ret
  exact ⟨rfl, HR.out.setE 5, HKP.out.trans (kp_one _ _ _ _)⟩

set_option maxHeartbeats 400000 in
theorem textX_go {w : World} {xb : Nat} {l l1 : List Int} {e0 n : Int} (h : Rx XB w xb l e0) (most : Int) (hs : xStep 9007199254740991 l e0 = (n, l1, 0)) (hm : n ≤ most) :
    Calls Try.prog 24 #[.pointer (some ⟨xb, 0, none⟩), .int .i64 most] w fun e w' => XText XB w xb (xRaw n l1 0) e w' := by
  have H := hd h
  have HS := hd hs
  clear h hs
  go_enter Try.func24, Try.ntmps24
  go_wp2_with fail
  refine (UX_is H.out HS.out).mono ?_
  rintro e w1 ⟨rfl, hr, hk⟩
  have hce := hr.err
  have HR := hd hr
  have HKP := hd hk
  clear hr hk
  go_wp2_with fail
  refine (rawX_any HR.out n).mono ?_
  rintro e w2 ⟨a, cap, rfl, hb, hr, hk⟩
  have hcv := conv_bs hb
  have HR2 := hd hr
  have HK2 := hd hk
  clear hb hr hk
  go_wp2
  go_ret
  exact ⟨rfl, HR2.out, HKP.out.trans HK2.out⟩

theorem textX_any {w : World} {xb : Nat} {l : List Int} {e0 : Int} (h : Rx XB w xb l e0) (most : Int) :
    Calls Try.prog 24 #[.pointer (some ⟨xb, 0, none⟩), .int .i64 most] w fun e w' => XText XB w xb (xText most l e0) e w' := by
  obtain ⟨n, l1, e1, hs⟩ : ∃ n l1 e1, xStep 9007199254740991 l e0 = (n, l1, e1) := ⟨_, _, _, rfl⟩
  unfold xText
  rw [hs]
  by_cases he : e1 ≠ 0
  · rw [if_pos he]; exact textX_err h most hs he
  · have he' : e1 = 0 := by simpa using he
    subst he'
    rw [if_neg he]
    by_cases hm : most < n
    · rw [if_pos hm]; exact textX_much h most hs hm
    · rw [if_neg hm]; exact textX_go h most hs (by omega)

/-! What both readers tell is the same. -/

theorem u_agree (most : Int) (l lx : List Int) (e : Int) (h : e = 0 → lx = l) : (uStep most l e).1 = (xStep most lx e).1 ∧ (uStep most l e).2.2 = (xStep most lx e).2.2 ∧ ((uStep most l e).2.2 = 0 → (xStep most lx e).2.1 = (uStep most l e).2.1) := by
  unfold uStep xStep
  by_cases he : e ≠ 0
  · rw [if_pos he, if_pos he]; exact ⟨rfl, rfl, fun h => absurd h he⟩
  · have he' : e = 0 := by simpa using he
    rw [if_neg he, if_neg he, h he']
    by_cases h2 : (Num.num most l).2.1 ≠ 0
    · rw [if_pos h2, if_pos h2]; exact ⟨rfl, rfl, fun h => absurd h h2⟩
    · rw [if_neg h2, if_neg h2]; exact ⟨rfl, rfl, fun _ => rfl⟩

theorem raw_agree (n : Int) (l lx : List Int) (e : Int) (h : e = 0 → lx = l) : (bStep (rawR n l) l e).1 = (xRaw n lx e).1 ∧ (bStep (rawR n l) l e).2.2 = (xRaw n lx e).2.2 ∧ ((bStep (rawR n l) l e).2.2 = 0 → (xRaw n lx e).2.1 = (bStep (rawR n l) l e).2.1) := by
  unfold bStep xRaw rawR
  by_cases he : e ≠ 0
  · rw [if_pos he, if_pos he]; exact ⟨rfl, rfl, fun h => absurd h he⟩
  · have he' : e = 0 := by simpa using he
    rw [if_neg he, if_neg he, h he']
    by_cases h2 : n < 0
    · rw [if_pos h2, if_pos h2]; simp
    · rw [if_neg h2, if_neg h2]
      by_cases h3 : (l.length : Int) < n
      · rw [if_pos h3, if_pos h3]; simp
      · rw [if_neg h3, if_neg h3]; simp

theorem text_agree (most : Int) (l lx : List Int) (e : Int) (h : e = 0 → lx = l) : (bStep (textR most l) l e).1 = (xText most lx e).1 ∧ (bStep (textR most l) l e).2.2 = (xText most lx e).2.2 ∧ ((bStep (textR most l) l e).2.2 = 0 → (xText most lx e).2.1 = (bStep (textR most l) l e).2.1) := by
  by_cases he : e ≠ 0
  · unfold bStep xText
    rw [xStep_err he, if_pos he, if_pos he]; exact ⟨rfl, rfl, fun h => absurd h he⟩
  · have he' : e = 0 := by simpa using he
    subst he'
    rw [h rfl]
    obtain ⟨n, er, k, hn⟩ : ∃ n er k, Num.num 9007199254740991 l = (n, er, k) := ⟨_, _, _, rfl⟩
    unfold xText textR
    rw [hn]
    by_cases h2 : er ≠ 0
    · rw [xStep_bad hn h2, if_pos h2, if_pos h2]
      unfold bStep
      rw [if_neg he, if_pos h2]
      exact ⟨rfl, rfl, fun h => absurd h h2⟩
    · have h2' : er = 0 := by simpa using h2
      subst h2'
      rw [xStep_ok hn, if_neg h2, if_neg h2]
      by_cases h3 : most < n
      · rw [if_pos h3, if_pos h3]; unfold bStep; simp
      · rw [if_neg h3, if_neg h3]
        have q := raw_agree n (l.drop k) (l.drop k) 0 (fun _ => rfl)
        have e1 : bStep (rawR n (l.drop k)) l 0 = bStep (rawR n (l.drop k)) (l.drop k) 0 := by unfold bStep; rw [if_neg he, if_neg he]
        rw [e1]
        exact q

end Go.Proofs.Ytdjpdllgifdhaaa
