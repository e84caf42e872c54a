/- The lines of rules and of readers: what they say, and back. -/
import Derived.Test.YtcigbfjmnhogiabGreatDoorLn
import Derived.KernelRfl
namespace Go.Proofs.YtcigbfjmnhogiabGreatDoor
open Go.RowKit
set_option linter.unusedVariables false

/-- Numbers' texts: what is written is read. -/
theorem pu_snoc (c : UInt8) (hc : 48 ≤ c.toNat ∧ c.toNat ≤ 57) : ∀ (l : List UInt8) (acc a : Nat), Lib.parseUint10 acc l = .ok a → a * 10 + (c.toNat - 48) < 18446744073709551616 → Lib.parseUint10 acc (l ++ [c]) = .ok (a * 10 + (c.toNat - 48))
  | [], acc, a, h, hb => by
    simp only [Lib.parseUint10, Lib.NumEnd.ok.injEq] at h
    subst h
    simp only [List.nil_append, Lib.parseUint10]
    rw [if_pos hc, if_neg (by omega), if_neg (by omega)]
  | d :: l, acc, a, h, hb => by
    rw [List.cons_append]
    unfold Lib.parseUint10 at h ⊢
    split at h
    · rename_i h1
      rw [if_pos h1]
      split at h
      · cases h
      · rename_i h2
        rw [if_neg h2]
        split at h
        · cases h
        · rename_i h3
          rw [if_neg h3]
          exact pu_snoc c hc l _ a h hb
    · cases h
theorem dg_byte (d : Nat) (h : d < 10) : (UInt8.ofNat (48 + d)).toNat = 48 + d := by
  rw [UInt8.toNat_ofNat']
  omega
theorem pu_digits : ∀ (u : Nat), u < 18446744073709551616 → Lib.parseUint10 0 (Lib.decDigits u) = .ok u := by
  intro u
  induction u using Nat.strongRecOn with
  | _ u ih =>
    intro hb
    rw [Lib.decDigits]
    split
    · rename_i h
      have e := dg_byte u h
      unfold Lib.parseUint10
      rw [e, if_pos (by omega), if_neg (by omega), if_neg (by omega)]
      unfold Lib.parseUint10
      congr 1
      omega
    · rename_i h
      have e := dg_byte (u % 10) (by omega)
      have := pu_snoc (UInt8.ofNat (48 + u % 10)) (by rw [e]; omega) _ 0 (u / 10) (ih (u / 10) (by omega) (by omega)) (by rw [e]; omega)
      rw [this, e]
      congr 1
      omega
theorem dd_ne (u : Nat) : Lib.decDigits u ≠ [] := by
  rw [Lib.decDigits]
  split <;> simp
theorem dd_mem (u : Nat) : ∀ b ∈ Lib.decDigits u, 48 ≤ b.toNat ∧ b.toNat ≤ 57 := by
  induction u using Nat.strongRecOn with
  | _ u ih =>
    intro b hb
    rw [Lib.decDigits] at hb
    split at hb
    · rename_i h
      simp only [List.mem_singleton] at hb
      rw [hb, dg_byte u h]
      omega
    · rename_i h
      rcases List.mem_append.1 hb with hb | hb
      · exact ih (u / 10) (by omega) b hb
      · simp only [List.mem_singleton] at hb
        rw [hb, dg_byte (u % 10) (by omega)]
        omega
theorem atoi_itoa (n : Int) (h0 : 0 ≤ n) (h1 : n ≤ 9223372036854775807) : Lib.atoiAll (Lib.itoa n) = .ok n := by
  have e : Lib.itoa n = Lib.decDigits n.toNat := by unfold Lib.itoa; rw [if_neg (by omega)]
  have hp := pu_digits n.toNat (by omega)
  have hne := dd_ne n.toNat
  have hm := dd_mem n.toNat
  rw [e]
  cases hl : Lib.decDigits n.toNat with
  | nil => exact absurd hl hne
  | cons c r =>
    rw [hl] at hp hm
    have hc := hm c (by simp)
    unfold Lib.atoiAll
    simp only
    rw [if_neg (show ¬ (c.toNat = 43 ∨ c.toNat = 45) by omega)]
    unfold Lib.parseMag
    rw [if_neg (by simp), hp]
    simp only
    rw [if_neg (by omega), if_neg (by omega), if_neg (by omega)]
    congr 1
    omega
theorem numP_itoa (n : Int) (h0 : 0 ≤ n) (h1 : n ≤ 9223372036854775807) : numP (tB (Lib.itoa n)) = some n := by
  unfold numP
  rw [tB_data, atoi_itoa n h0 h1]
  simp
theorem numP_some {s : ByteArray} {v : Int} (h : numP s = some v) : s.data.toList = Lib.itoa v := by
  unfold numP at h
  split at h
  · split at h
    · rename_i h1
      cases h
      exact h1.symm
    · cases h
  · cases h
theorem itoa_mem (n : Int) : ∀ b ∈ Lib.itoa n, b ≠ 32 ∧ b ≠ 10 := by
  intro b hb
  unfold Lib.itoa at hb
  have hd : ∀ u, b ∈ Lib.decDigits u → b ≠ 32 ∧ b ≠ 10 := by
    intro u hu
    have := dd_mem u b hu
    constructor
    · rintro rfl; revert this; decide
    · rintro rfl; revert this; decide
  split at hb
  · rcases List.mem_cons.1 hb with rfl | hb
    · decide
    · exact hd _ hb
  · exact hd _ hb

/-- What stands in a name, a label's text. -/
theorem sgn_not (b : UInt8) (h : isSgn b.toNat = true) : b ≠ 32 ∧ b ≠ 10 := by
  constructor
  · rintro rfl; revert h; decide
  · rintro rfl; revert h; decide
theorem nm_mem {s : ByteArray} (h : isNm s = true) : ∀ b ∈ s.data.toList, b ≠ 32 ∧ b ≠ 10 := by
  intro b hb
  unfold isNm at h
  simp only [Bool.and_eq_true] at h
  exact sgn_not b (List.all_eq_true.1 h.2 b hb)
theorem nm_size {s : ByteArray} (h : isNm s = true) : 1 ≤ s.size ∧ s.size ≤ 24 := by
  unfold isNm at h
  simp only [Bool.and_eq_true, decide_eq_true_eq] at h
  exact ⟨h.1.1.1, h.1.1.2⟩
theorem fgc_not : ∀ d : Fin 16, fgc d.val ≠ 32 ∧ fgc d.val ≠ 10 := by decide +kernel
theorem fgc_mod (n : Nat) : fgc (n % 16) ≠ 32 ∧ fgc (n % 16) ≠ 10 := fgc_not ⟨n % 16, Nat.mod_lt _ (by decide)⟩
theorem text_mem {x p : Nat} (hx : x ≤ 7) : ∀ b ∈ (textOf x p).data.toList, b ≠ 32 ∧ b ≠ 10 := by
  intro b hb
  have h1 := fgc_not ⟨x, by omega⟩
  unfold textOf at hb
  split at hb
  · simp at hb
    rw [hb]
    exact h1
  · simp only [List.mem_cons] at hb
    rcases hb with rfl | rfl | hb
    · exact h1
    · decide
    · unfold text8 at hb
      simp only [List.mem_cons, List.not_mem_nil, or_false] at hb
      rcases hb with rfl | rfl | rfl | rfl | rfl | rfl | rfl | rfl <;> exact fgc_mod _
theorem text_size (x p : Nat) : 1 ≤ (textOf x p).size ∧ (textOf x p).size ≤ 10 := by
  unfold textOf
  split
  · exact ⟨Nat.le_refl 1, by show 1 ≤ 10; decide⟩
  · rw [tB_size]
    simp [text8]

/-- rule, reader. -/
abbrev wRule : List UInt8 := [114, 117, 108, 101]
abbrev wReader : List UInt8 := [114, 101, 97, 100, 101, 114]
/-- A label's text as bytes. -/
def labT (x p : Int) : List UInt8 := (textOf x.toNat p.toNat).data.toList
/-- The words of a rule, of a reader. -/
def wdR (r : RuleD) : List (List UInt8) := [wRule, r.1.data.toList, labT r.2.1 r.2.2]
def wdQ (r : ReaderD) : List (List UInt8) := [wReader, r.1.data.toList, labT r.2.1 r.2.2.1, Lib.itoa r.2.2.2.1, Lib.itoa r.2.2.2.2]
/-- Their lines. -/
def lnR (r : RuleD) : List UInt8 := glue 32 (wdR r)
def lnQ (r : ReaderD) : List UInt8 := glue 32 (wdQ r)
/-- May they be, and are they what a program can hold? -/
def GoodR (r : RuleD) : Prop := okRule r = true ∧ 0 ≤ r.2.2 ∧ r.2.2 < 4294967296
def GoodQ (r : ReaderD) : Prop := okReader r = true ∧ 0 ≤ r.2.2.1 ∧ r.2.2.1 < 4294967296

theorem okRule_parts {r : RuleD} (h : okRule r = true) : isNm r.1 = true ∧ 0 ≤ r.2.1 ∧ r.2.1 ≤ 7 := by
  unfold okRule okL at h
  simp only [Bool.and_eq_true, decide_eq_true_eq] at h
  exact h
theorem okReader_parts {r : ReaderD} (h : okReader r = true) : isNm r.1 = true ∧ (0 ≤ r.2.1 ∧ r.2.1 ≤ 7) ∧ (2 ≤ r.2.2.2.1 ∧ r.2.2.2.1 ≤ 1000) ∧ 0 ≤ r.2.2.2.2 ∧ r.2.2.2.2 ≤ 1000000 := by
  unfold okReader okL at h
  simp only [Bool.and_eq_true, decide_eq_true_eq] at h
  exact ⟨h.1.1.1.1.1, h.1.1.1.1.2, ⟨h.1.1.1.2, h.1.1.2⟩, h.1.2, h.2⟩
theorem wRule_mem : ∀ b ∈ wRule, b ≠ 32 ∧ b ≠ 10 := by decide
theorem wReader_mem : ∀ b ∈ wReader, b ≠ 32 ∧ b ≠ 10 := by decide
theorem wdR_mem {r : RuleD} (h : okRule r = true) : ∀ w ∈ wdR r, ∀ b ∈ w, b ≠ 32 ∧ b ≠ 10 := by
  obtain ⟨h1, h2, h3⟩ := okRule_parts h
  intro w hw
  unfold wdR at hw
  simp only [List.mem_cons, List.not_mem_nil, or_false] at hw
  rcases hw with rfl | rfl | rfl
  · exact wRule_mem
  · exact nm_mem h1
  · exact text_mem (by omega)
theorem wdQ_mem {r : ReaderD} (h : okReader r = true) : ∀ w ∈ wdQ r, ∀ b ∈ w, b ≠ 32 ∧ b ≠ 10 := by
  obtain ⟨h1, ⟨h2, h3⟩, _⟩ := okReader_parts h
  intro w hw
  unfold wdQ at hw
  simp only [List.mem_cons, List.not_mem_nil, or_false] at hw
  rcases hw with rfl | rfl | rfl | rfl | rfl
  · exact wReader_mem
  · exact nm_mem h1
  · exact text_mem (by omega)
  · exact itoa_mem _
  · exact itoa_mem _
theorem glue_mem {c d : UInt8} (hd : d ≠ c) : ∀ {ws : List (List UInt8)}, (∀ w ∈ ws, d ∉ w) → d ∉ glue c ws
  | [], _ => by simp [glue]
  | [x], h => h x (by simp)
  | x :: y :: t, h => by
    rw [glue_cons c x (by simp)]
    intro hm
    rcases List.mem_append.1 hm with hm | hm
    · exact h x (by simp) hm
    · rcases List.mem_cons.1 hm with e | hm
      · exact hd e
      · exact glue_mem hd (ws := y :: t) (fun w hw => h w (List.mem_cons_of_mem _ hw)) hm
theorem lnR_no10 {r : RuleD} (h : okRule r = true) : (10 : UInt8) ∉ lnR r := glue_mem (by decide) fun w hw hb => (wdR_mem h w hw 10 hb).2 rfl
theorem lnQ_no10 {r : ReaderD} (h : okReader r = true) : (10 : UInt8) ∉ lnQ r := glue_mem (by decide) fun w hw hb => (wdQ_mem h w hw 10 hb).2 rfl
theorem lnR_cut {r : RuleD} (h : okRule r = true) : cutL 32 (lnR r) = wdR r := cutL_glue 32 (by simp [wdR]) fun w hw hb => (wdR_mem h w hw 32 hb).1 rfl
theorem lnQ_cut {r : ReaderD} (h : okReader r = true) : cutL 32 (lnQ r) = wdQ r := cutL_glue 32 (by simp [wdQ]) fun w hw hb => (wdQ_mem h w hw 32 hb).1 rfl
theorem lnR_spl {r : RuleD} (h : okRule r = true) : splW 5 (tB (lnR r)) = (wdR r).map tB := by rw [splW_cut 5 _ (by rw [lnR_cut h]; simp [wdR]), lnR_cut h]
theorem lnQ_spl {r : ReaderD} (h : okReader r = true) : splW 5 (tB (lnQ r)) = (wdQ r).map tB := by rw [splW_cut 5 _ (by rw [lnQ_cut h]; simp [wdQ]), lnQ_cut h]
theorem lnR_head (r : RuleD) : ∃ t, lnR r = 114 :: t := ⟨_, rfl⟩
theorem lnQ_head (r : ReaderD) : ∃ t, lnQ r = 114 :: t := ⟨_, rfl⟩
theorem live_head {l t : List UInt8} (h : l = 114 :: t) : ((tB l).size == 0 || isRem (tB l)) = false := by
  subst h
  rw [tB_size]
  have : isRem (tB (114 :: t)) = false := by
    unfold isRem
    have e : bt (tB (114 :: t)) 0 = 114 := rfl
    rw [e]
    simp
  rw [this]
  simp

theorem lineP_rule {r : RuleD} (h : GoodR r) : lineP ((wdR r).map tB) = some (.inl r) := by
  obtain ⟨s, x, p⟩ := r
  obtain ⟨h0, hp0, hp1⟩ := h
  obtain ⟨h1, h2, h3⟩ := okRule_parts h0
  simp only at h1 h2 h3 hp0 hp1
  have hr : rdL (tB (labT x p)) = some (x.toNat, p.toNat) := by
    have : tB (labT x p) = textOf x.toNat p.toNat := tB_of _
    rw [this]
    exact rdL_text _ _ (by omega) (by omega)
  have e1 : ruleP ((wdR (s, x, p)).map tB).tail = ((s, x, p), true) := by
    show (match rdL (tB (labT x p)) with
      | some (x', p') => ((tB s.data.toList, (x' : Int), (p' : Int)), isNm (tB s.data.toList))
      | none => ((tB s.data.toList, 0, 0), false)) = _
    rw [hr, tB_of]
    simp only [h1]
    have ex : ((x.toNat : Nat) : Int) = x := by omega
    have ep : ((p.toNat : Nat) : Int) = p := by omega
    rw [ex, ep]
  unfold lineP
  rw [e1]
  rfl
theorem lineP_reader {r : ReaderD} (h : GoodQ r) : lineP ((wdQ r).map tB) = some (.inr r) := by
  obtain ⟨s, x, p, k, m⟩ := r
  obtain ⟨h0, hp0, hp1⟩ := h
  obtain ⟨h1, ⟨h2, h3⟩, ⟨h4, h5⟩, h6, h7⟩ := okReader_parts h0
  simp only at h1 h2 h3 h4 h5 h6 h7 hp0 hp1
  have hr : rdL (tB (labT x p)) = some (x.toNat, p.toNat) := by
    have : tB (labT x p) = textOf x.toNat p.toNat := tB_of _
    rw [this]
    exact rdL_text _ _ (by omega) (by omega)
  have ex : ((x.toNat : Nat) : Int) = x := by omega
  have ep : ((p.toNat : Nat) : Int) = p := by omega
  have e1 : rdrP ((wdQ (s, x, p, k, m)).map tB).tail = some (s, x, p, k, m) := by
    show (match rdL (tB (labT x p)), numP (tB (Lib.itoa k)), numP (tB (Lib.itoa m)) with
      | some (x', p'), some k', some b' => if okReader (tB s.data.toList, (x' : Int), (p' : Int), k', b') then some (tB s.data.toList, (x' : Int), (p' : Int), k', b') else none
      | _, _, _ => none) = _
    rw [hr, numP_itoa k (by omega) (by omega), numP_itoa m (by omega) (by omega), tB_of]
    simp only [ex, ep, h0, if_true]
  unfold lineP
  rw [e1]
  rfl
theorem heedM_rule {r : RuleD} (h : GoodR r) (st : PolD) : heedM st (tB (lnR r)) = if !has (α := RuleD) Prod.fst r.1 st.1 && decide (st.1.length < 64) then some (ins (α := RuleD) Prod.fst r st.1, st.2) else none := by
  obtain ⟨t, ht⟩ := lnR_head r
  unfold heedM
  rw [live_head ht, lnR_spl h.1, lineP_rule h]
  rfl
theorem heedM_reader {r : ReaderD} (h : GoodQ r) (st : PolD) : heedM st (tB (lnQ r)) = if !has (α := ReaderD) Prod.fst r.1 st.2 && decide (st.2.length < 16) then some (st.1, ins (α := ReaderD) Prod.fst r st.2) else none := by
  obtain ⟨t, ht⟩ := lnQ_head r
  unfold heedM
  rw [live_head ht, lnQ_spl h.1, lineP_reader h]
  rfl

theorem rdL_none : rdL ⟨#[]⟩ = none := by
  cases h : rdL ⟨#[]⟩ with
  | none => rfl
  | some q =>
    obtain ⟨x, p⟩ := q
    obtain ⟨_, _, h3⟩ := rdL_some h
    have := (text_size x p).1
    rw [← h3] at this
    exact absurd this (by decide)
theorem numP_none : numP ⟨#[]⟩ = none := by kernel_rfl

/-- The words of a rule that a line tells. -/
theorem ruleP_inv {ps : List ByteArray} (h : (ruleP ps).2 = true) (hl : ps.tail.tail = []) : ∃ x p : Nat, x ≤ 7 ∧ p < 4294967296 ∧ ps = [hdW ps, textOf x p] ∧ isNm (hdW ps) = true ∧ (ruleP ps).1 = (hdW ps, (x : Int), (p : Int)) := by
  unfold ruleP at h ⊢
  match ps, hl with
  | [], _ =>
    have e : rdL (hdW ([] : List ByteArray).tail) = none := rdL_none
    rw [e] at h
    cases h
  | [a], _ =>
    have e : rdL (hdW ([a] : List ByteArray).tail) = none := rdL_none
    rw [e] at h
    cases h
  | [a, b], _ =>
    have e : hdW ([a, b] : List ByteArray).tail = b := rfl
    rw [e] at h ⊢
    cases hr : rdL b with
    | none => rw [hr] at h; cases h
    | some q =>
      obtain ⟨x, p⟩ := q
      rw [hr] at h
      obtain ⟨h1, h2, h3⟩ := rdL_some hr
      exact ⟨x, p, h1, h2, by rw [← h3]; rfl, h, rfl⟩
  | a :: b :: c :: t, hl => cases hl
theorem rdrP_inv {ps : List ByteArray} {r : ReaderD} (h : rdrP ps = some r) (hl : ps.tail.tail.tail.tail = []) : ∃ (x p : Nat) (k m : Int), x ≤ 7 ∧ p < 4294967296 ∧ ps = [hdW ps, textOf x p, tB (Lib.itoa k), tB (Lib.itoa m)] ∧ r = (hdW ps, (x : Int), (p : Int), k, m) ∧ okReader r = true := by
  unfold rdrP at h
  cases h1 : rdL (hdW ps.tail) with
  | none => rw [h1] at h; cases h
  | some q =>
    obtain ⟨x, p⟩ := q
    rw [h1] at h
    cases h2 : numP (hdW ps.tail.tail) with
    | none => rw [h2] at h; cases h
    | some k =>
      rw [h2] at h
      cases h3 : numP (hdW ps.tail.tail.tail) with
      | none => rw [h3] at h; cases h
      | some m =>
        rw [h3] at h
        simp only at h
        split at h
        · rename_i hok
          cases h
          obtain ⟨l1, l2, l3⟩ := rdL_some h1
          refine ⟨x, p, k, m, l1, l2, ?_, rfl, hok⟩
          have n2 := numP_some h2
          have n3 := numP_some h3
          have e2 : hdW ps.tail.tail = tB (Lib.itoa k) := ba_ext n2
          have e3 : hdW ps.tail.tail.tail = tB (Lib.itoa m) := ba_ext n3
          match ps, hl with
          | [], _ =>
            have e : hdW ([] : List ByteArray).tail.tail = ⟨#[]⟩ := rfl
            rw [e, numP_none] at h2
            cases h2
          | [a], _ =>
            have e : hdW ([a] : List ByteArray).tail.tail = ⟨#[]⟩ := rfl
            rw [e, numP_none] at h2
            cases h2
          | [a, b], _ =>
            have e : hdW ([a, b] : List ByteArray).tail.tail = ⟨#[]⟩ := rfl
            rw [e, numP_none] at h2
            cases h2
          | [a, b, c], _ =>
            have e : hdW ([a, b, c] : List ByteArray).tail.tail.tail = ⟨#[]⟩ := rfl
            rw [e, numP_none] at h3
            cases h3
          | [a, b, c, d], _ =>
            have f1 : b = textOf x p := l3
            have f2 : c = tB (Lib.itoa k) := e2
            have f3 : d = tB (Lib.itoa m) := e3
            rw [f1, f2, f3]
            rfl
          | a :: b :: c :: d :: f :: t, hl => cases hl
        · cases h

/-- What a line says, back to its words. -/
theorem lineP_invR {ps : List ByteArray} {r : RuleD} (h : lineP ps = some (.inl r)) : GoodR r ∧ ps = (wdR r).map tB := by
  unfold lineP at h
  split at h
  · rename_i hw
    split at h
    · rename_i hc
      simp only [Option.some.injEq, Sum.inl.injEq] at h
      simp only [Bool.and_eq_true, List.isEmpty_iff] at hc
      obtain ⟨x, p, h1, h2, h3, h4, h5⟩ := ruleP_inv hc.1 hc.2
      rw [h5] at h
      subst h
      refine ⟨⟨?_, by show (0 : Int) ≤ (p : Int); omega, by show (p : Int) < 4294967296; omega⟩, ?_⟩
      · unfold okRule okL
        have e : (0 : Int) ≤ (x : Int) ∧ (x : Int) ≤ 7 := by omega
        simp only [h4, decide_eq_true e.1, decide_eq_true e.2, Bool.and_self]
      · cases ps with
        | nil => exact absurd hw (by decide)
        | cons a t =>
          have ha : a = tB wRule := ba_ext (by simpa [hdW] using hw)
          have ht : t = [hdW t, textOf x p] := h3
          unfold wdR labT
          simp only [List.map_cons, List.map_nil, Int.toNat_natCast, tB_of, List.tail_cons]
          rw [ha]
          exact congrArg _ ht
    · cases h
  · split at h
    · split at h
      · split at h
        · cases h
        · cases h
      · cases h
    · cases h
theorem lineP_invQ {ps : List ByteArray} {r : ReaderD} (h : lineP ps = some (.inr r)) : GoodQ r ∧ ps = (wdQ r).map tB := by
  unfold lineP at h
  split at h
  · split at h
    · cases h
    · cases h
  · split at h
    · rename_i hw
      cases hq : rdrP ps.tail with
      | none => rw [hq] at h; cases h
      | some q =>
        rw [hq] at h
        simp only at h
        split at h
        · rename_i hc
          simp only [Option.some.injEq, Sum.inr.injEq] at h
          simp only [List.isEmpty_iff] at hc
          obtain ⟨x, p, k, m, h1, h2, h3, h4, h5⟩ := rdrP_inv hq hc
          subst h
          rw [h4] at h5 ⊢
          refine ⟨⟨h5, by show (0 : Int) ≤ (p : Int); omega, by show (p : Int) < 4294967296; omega⟩, ?_⟩
          cases ps with
          | nil => exact absurd hw (by decide)
          | cons a t =>
            have ha : a = tB wReader := ba_ext (by simpa [hdW] using hw)
            have ht : t = [hdW t, textOf x p, tB (Lib.itoa k), tB (Lib.itoa m)] := h3
            unfold wdQ labT
            simp only [List.map_cons, List.map_nil, Int.toNat_natCast, tB_of, List.tail_cons]
            rw [ha]
            exact congrArg _ ht
        · cases h
    · cases h

/-- Pieces of a line that are few enough are all of them. -/
theorem spl_all {l : List UInt8} {ws : List (List UInt8)} (h : splW 5 (tB l) = ws.map tB) (h5 : ws.length ≤ 5) : l = glue 32 ws := by
  have hc : (cutL 32 l).length ≤ 5 + 1 := by
    by_cases hc : 5 + 1 < (cutL 32 l).length
    · have := splW_more 5 l hc
      rw [h, List.length_map] at this
      omega
    · omega
  rw [splW_cut 5 l hc] at h
  have e : cutL 32 l = ws := by
    have := congrArg (List.map fun s : ByteArray => s.data.toList) h
    simpa [List.map_map, Function.comp_def] using this
  rw [← glue_cutL 32 l, e]

/-- A line that is heeded says nothing, or is a rule's or a reader's own. -/
theorem heedM_inv {st st' : PolD} {l : List UInt8} (h : heedM st (tB l) = some st') :
    st' = st ∨ (∃ r, GoodR r ∧ l = lnR r ∧ has (α := RuleD) Prod.fst r.1 st.1 = false ∧ st.1.length < 64 ∧ st' = (ins (α := RuleD) Prod.fst r st.1, st.2)) ∨
      (∃ r, GoodQ r ∧ l = lnQ r ∧ has (α := ReaderD) Prod.fst r.1 st.2 = false ∧ st.2.length < 16 ∧ st' = (st.1, ins (α := ReaderD) Prod.fst r st.2)) := by
  unfold heedM at h
  split at h
  · cases h
    exact Or.inl rfl
  · cases hl : lineP (splW 5 (tB l)) with
    | none => rw [hl] at h; cases h
    | some q =>
      rw [hl] at h
      cases q with
      | inl r =>
        obtain ⟨hg, hp⟩ := lineP_invR hl
        simp only at h
        split at h
        · rename_i hh
          simp only [Option.some.injEq] at h
          simp only [Bool.and_eq_true, Bool.not_eq_true', decide_eq_true_eq] at hh
          exact Or.inr (Or.inl ⟨r, hg, spl_all hp (by simp [wdR]), hh.1, hh.2, h.symm⟩)
        · cases h
      | inr r =>
        obtain ⟨hg, hp⟩ := lineP_invQ hl
        simp only at h
        split at h
        · rename_i hh
          simp only [Option.some.injEq] at h
          simp only [Bool.and_eq_true, Bool.not_eq_true', decide_eq_true_eq] at hh
          exact Or.inr (Or.inr ⟨r, hg, spl_all hp (by simp [wdQ]), hh.1, hh.2, h.symm⟩)
        · cases h

end Go.Proofs.YtcigbfjmnhogiabGreatDoor
