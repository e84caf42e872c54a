/- A policy, its text: whatever the order of its lines. -/
import Derived.Test.YtcigbfjmnhogiabGreatDoorWl
import Derived.Test.YtcigbfjmnhogiabGreatDoorFd
namespace Go.Proofs.YtcigbfjmnhogiabGreatDoor
open Go.RowKit
set_option linter.unusedVariables false

abbrev Ent := RuleD ⊕ ReaderD
/-- The line of one. -/
def lnE : Ent → List UInt8
  | .inl r => lnR r
  | .inr r => lnQ r
/-- A policy's rules and readers. -/
def ents (st : PolD) : List Ent := st.1.map Sum.inl ++ st.2.map Sum.inr
/-- A policy's lines, its text. -/
def lns (st : PolD) : List (List UInt8) := st.1.map lnR ++ st.2.map lnQ
def wrL (st : PolD) : List UInt8 := ((lns st).map (· ++ [10])).flatten
/-- A policy that may be. -/
structure GoodP (st : PolD) : Prop where
  sr : Srt (α := RuleD) Prod.fst st.1
  sq : Srt (α := ReaderD) Prod.fst st.2
  lr : st.1.length ≤ 64
  lq : st.2.length ≤ 16
  gr : ∀ r ∈ st.1, GoodR r
  gq : ∀ r ∈ st.2, GoodQ r

theorem lns_ents (st : PolD) : lns st = (ents st).map lnE := by
  unfold lns ents
  rw [List.map_append, List.map_map, List.map_map]
  rfl
theorem mem_entsR (st : PolD) (r : RuleD) : Sum.inl r ∈ ents st ↔ r ∈ st.1 := by simp [ents]
theorem mem_entsQ (st : PolD) (r : ReaderD) : Sum.inr r ∈ ents st ↔ r ∈ st.2 := by simp [ents]

variable {α : Type} {nm : α → ByteArray}
theorem ins_perm (x : α) : ∀ xs : List α, (ins nm x xs).Perm (x :: xs)
  | [] => List.Perm.refl _
  | y :: t => by
    unfold ins
    split
    · exact (List.Perm.cons y (ins_perm x t)).trans (List.Perm.swap x y t)
    · exact List.Perm.refl _
theorem srt_nodup {xs : List α} (h : Srt nm xs) : xs.Nodup := by
  refine List.Pairwise.imp ?_ h
  intro a b hab e
  rw [e] at hab
  rw [lts_irr] at hab
  cases hab
theorem srt_inj {xs : List α} (h : Srt nm xs) {a b : α} (ha : a ∈ xs) (hb : b ∈ xs) (e : nm a = nm b) : a = b := by
  obtain ⟨i, hi, rfl⟩ := List.getElem_of_mem ha
  obtain ⟨j, hj, rfl⟩ := List.getElem_of_mem hb
  rcases Nat.lt_trichotomy i j with hij | rfl | hij
  · have := h.get hij hj
    rw [e, lts_irr] at this
    cases this
  · rfl
  · have := h.get hij hi
    rw [e, lts_irr] at this
    cases this

theorem ents_nodup {st : PolD} (h : GoodP st) : (ents st).Nodup := by
  unfold ents List.Nodup
  rw [List.pairwise_append, List.pairwise_map, List.pairwise_map]
  refine ⟨List.Pairwise.imp (fun hab e => hab (by simpa using e)) (srt_nodup h.sr), List.Pairwise.imp (fun hab e => hab (by simpa using e)) (srt_nodup h.sq), ?_⟩
  intro a ha b hb e
  obtain ⟨x, _, rfl⟩ := List.mem_map.1 ha
  obtain ⟨y, _, rfl⟩ := List.mem_map.1 hb
  cases e
def lefts (E : List Ent) : List RuleD := E.filterMap Sum.getLeft?
def rights (E : List Ent) : List ReaderD := E.filterMap Sum.getRight?
theorem lefts_ents (st : PolD) : lefts (ents st) = st.1 := by
  unfold lefts ents
  rw [List.filterMap_append, List.filterMap_map, List.filterMap_map]
  have e1 : st.1.filterMap (Sum.getLeft? ∘ (Sum.inl : RuleD → Ent)) = st.1 := by
    have : (Sum.getLeft? ∘ (Sum.inl : RuleD → Ent)) = some := rfl
    rw [this, List.filterMap_some]
  have e2 : st.2.filterMap (Sum.getLeft? ∘ (Sum.inr : ReaderD → Ent)) = [] := by
    rw [List.filterMap_eq_nil_iff]
    intro a _
    rfl
  rw [e1, e2, List.append_nil]
theorem rights_ents (st : PolD) : rights (ents st) = st.2 := by
  unfold rights ents
  rw [List.filterMap_append, List.filterMap_map, List.filterMap_map]
  have e1 : st.1.filterMap (Sum.getRight? ∘ (Sum.inl : RuleD → Ent)) = [] := by
    rw [List.filterMap_eq_nil_iff]
    intro a _
    rfl
  have e2 : st.2.filterMap (Sum.getRight? ∘ (Sum.inr : ReaderD → Ent)) = st.2 := by
    have : (Sum.getRight? ∘ (Sum.inr : ReaderD → Ent)) = some := rfl
    rw [this, List.filterMap_some]
  rw [e1, e2, List.nil_append]

/-- What lines say; some say nothing. -/
inductive Says : List (List UInt8) → List Ent → Prop
  | nil : Says [] []
  | noop {l : List UInt8} {L : List (List UInt8)} {E : List Ent} : (∀ st, heedM st (tB l) = some st) → Says L E → Says (l :: L) E
  | ent {e : Ent} {L : List (List UInt8)} {E : List Ent} : Says L E → Says (lnE e :: L) (e :: E)
theorem Says.ents : ∀ E : List Ent, Says (E.map lnE) E
  | [] => .nil
  | e :: t => .ent (Says.ents t)
theorem Says.append {L L' : List (List UInt8)} {E E' : List Ent} (h : Says L E) (h' : Says L' E') : Says (L ++ L') (E ++ E') := by
  induction h with
  | nil => exact h'
  | noop hl _ ih => exact .noop hl ih
  | ent _ ih => exact .ent ih

/-- Whatever the order of its lines, a policy comes out. -/
theorem runL_says {st : PolD} (hg : GoodP st) {L : List (List UInt8)} {E : List Ent} (h : Says L E) :
    ∀ (acc : PolD) (k : Nat) (tl : List (List UInt8)), (ents acc ++ E).Perm (ents st) → Srt (α := RuleD) Prod.fst acc.1 → Srt (α := ReaderD) Prod.fst acc.2 → runL k acc (L ++ tl) = runL (k + L.length) st tl := by
  induction h with
  | nil =>
    intro acc k tl hp h1 h2
    rw [List.append_nil] at hp
    have e1 : acc.1 = st.1 := srt_ext h1 hg.sr fun a => by rw [← mem_entsR, ← mem_entsR]; exact hp.mem_iff
    have e2 : acc.2 = st.2 := srt_ext h2 hg.sq fun a => by rw [← mem_entsQ, ← mem_entsQ]; exact hp.mem_iff
    have e : acc = st := Prod.ext e1 e2
    rw [e]
    rfl
  | @noop l L E hl _ ih =>
    intro acc k tl hp h1 h2
    rw [List.cons_append, runL, hl acc]
    simp only
    rw [ih acc (k + 1) tl hp h1 h2, List.length_cons]
    congr 1
    omega
  | @ent e L E _ ih =>
    intro acc k tl hp h1 h2
    have hnd := hp.nodup_iff.2 (ents_nodup hg)
    have hmem : e ∈ ents st := hp.mem_iff.1 (by simp)
    have hsub : ∀ a ∈ ents acc, a ∈ ents st := fun a ha => hp.mem_iff.1 (List.mem_append_left _ ha)
    have hnot : e ∉ ents acc := by
      intro hh
      have := (List.nodup_append.1 hnd).2.2 e hh e (by simp)
      exact this rfl
    have hmid : (ents acc ++ e :: E).Perm (e :: (ents acc ++ E)) := List.perm_middle
    cases e with
    | inl r =>
      have hr : r ∈ st.1 := (mem_entsR st r).1 hmem
      have hgr := hg.gr r hr
      have hhas : has (α := RuleD) Prod.fst r.1 acc.1 = false := by
        rw [has_not]
        intro y hy e
        have hy' : y ∈ st.1 := (mem_entsR st y).1 (hsub _ ((mem_entsR acc y).2 hy))
        have := srt_inj (nm := fun r : RuleD => r.1) hg.sr hy' hr e
        exact hnot ((mem_entsR acc r).2 (this ▸ hy))
      have hlen : acc.1.length < 64 := by
        have h3 := (hp.filterMap Sum.getLeft?).length_eq
        have h4 : lefts (ents st) = st.1 := lefts_ents st
        have h5 : lefts (ents acc) = acc.1 := lefts_ents acc
        unfold lefts at h4 h5
        rw [h4, List.filterMap_append, h5, List.filterMap_cons] at h3
        simp only [Sum.getLeft?_inl, List.length_append, List.length_cons] at h3
        have := hg.lr
        omega
      rw [List.cons_append, runL]
      have hh : heedM acc (tB (lnE (.inl r))) = some (ins (α := RuleD) Prod.fst r acc.1, acc.2) := by
        show heedM acc (tB (lnR r)) = _
        rw [heedM_rule hgr, hhas, decide_eq_true hlen]
        rfl
      rw [hh]
      simp only
      rw [ih (ins (α := RuleD) Prod.fst r acc.1, acc.2) (k + 1) tl ?_ (Srt.ins h1 hhas) h2, List.length_cons]
      · congr 1
        omega
      · refine List.Perm.trans ?_ (hmid.symm.trans hp)
        refine List.Perm.append_right E (l₂ := Sum.inl r :: ents acc) ?_
        show ((ins (α := RuleD) Prod.fst r acc.1).map Sum.inl ++ acc.2.map Sum.inr).Perm ((r :: acc.1).map Sum.inl ++ acc.2.map Sum.inr)
        exact List.Perm.append_right _ ((ins_perm r acc.1).map _)
    | inr r =>
      have hr : r ∈ st.2 := (mem_entsQ st r).1 hmem
      have hgr := hg.gq r hr
      have hhas : has (α := ReaderD) Prod.fst r.1 acc.2 = false := by
        rw [has_not]
        intro y hy e
        have hy' : y ∈ st.2 := (mem_entsQ st y).1 (hsub _ ((mem_entsQ acc y).2 hy))
        have := srt_inj (nm := fun r : ReaderD => r.1) hg.sq hy' hr e
        exact hnot ((mem_entsQ acc r).2 (this ▸ hy))
      have hlen : acc.2.length < 16 := by
        have h3 := (hp.filterMap Sum.getRight?).length_eq
        have h4 : rights (ents st) = st.2 := rights_ents st
        have h5 : rights (ents acc) = acc.2 := rights_ents acc
        unfold rights at h4 h5
        rw [h4, List.filterMap_append, h5, List.filterMap_cons] at h3
        simp only [Sum.getRight?_inr, List.length_append, List.length_cons] at h3
        have := hg.lq
        omega
      rw [List.cons_append, runL]
      have hh : heedM acc (tB (lnE (.inr r))) = some (acc.1, ins (α := ReaderD) Prod.fst r acc.2) := by
        show heedM acc (tB (lnQ r)) = _
        rw [heedM_reader hgr, hhas, decide_eq_true hlen]
        rfl
      rw [hh]
      simp only
      rw [ih (acc.1, ins (α := ReaderD) Prod.fst r acc.2) (k + 1) tl ?_ h1 (Srt.ins h2 hhas), List.length_cons]
      · congr 1
        omega
      · refine List.Perm.trans ?_ (hmid.symm.trans hp)
        refine List.Perm.append_right E (l₂ := Sum.inr r :: ents acc) ?_
        show (acc.1.map Sum.inl ++ (ins (α := ReaderD) Prod.fst r acc.2).map Sum.inr).Perm (Sum.inr r :: (acc.1.map Sum.inl ++ acc.2.map Sum.inr))
        refine List.Perm.trans (List.Perm.append_left _ ((ins_perm r acc.2).map _)) ?_
        exact List.perm_middle

theorem runL_all {st : PolD} (hg : GoodP st) {L : List (List UInt8)} {E : List Ent} (h : Says L E) (hp : E.Perm (ents st)) (tl : List (List UInt8)) : runL 1 ([], []) (L ++ tl) = runL (1 + L.length) st tl :=
  runL_says hg h ([], []) 1 tl hp .nil .nil

theorem lnE_no10 {st : PolD} (hg : GoodP st) {e : Ent} (h : e ∈ ents st) : (10 : UInt8) ∉ lnE e := by
  cases e with
  | inl r => exact lnR_no10 (hg.gr r ((mem_entsR st r).1 h)).1
  | inr r => exact lnQ_no10 (hg.gq r ((mem_entsQ st r).1 h)).1
theorem lns_no10 {st : PolD} (hg : GoodP st) : ∀ l ∈ lns st, (10 : UInt8) ∉ l := by
  intro l hl
  rw [lns_ents] at hl
  obtain ⟨e, he, rfl⟩ := List.mem_map.1 hl
  exact lnE_no10 hg he
theorem wrL_glue (st : PolD) (y : List UInt8) : wrL st ++ y = glue 10 (lns st ++ [y]) := by
  rw [glue_snoc]
  rfl

/-- What was written is parsed as it was. -/
theorem parse_write {st : PolD} (hg : GoodP st) : parseM (tB (wrL st)) = (some st, 0) := by
  have e := wrL_glue st []
  rw [List.append_nil] at e
  rw [e, parseM_lines (by simp) (by
    intro x hx
    rcases List.mem_append.1 hx with hx | hx
    · exact lns_no10 hg x hx
    · simp only [List.mem_singleton] at hx
      rw [hx]
      simp)]
  rw [lns_ents, runL_all hg (Says.ents _) (List.Perm.refl _)]
  unfold runL
  rw [heedM_nil]
  rfl
/-- One line of it more, once again. -/
theorem parse_twice {st : PolD} (hg : GoodP st) {e : Ent} (he : e ∈ ents st) : parseM (tB (wrL st ++ lnE e)) = (none, (lns st).length + 1) := by
  rw [wrL_glue, parseM_lines (by simp) (by
    intro x hx
    rcases List.mem_append.1 hx with hx | hx
    · exact lns_no10 hg x hx
    · simp only [List.mem_singleton] at hx
      rw [hx]
      exact lnE_no10 hg he)]
  rw [lns_ents, runL_all hg (Says.ents _) (List.Perm.refl _)]
  unfold runL
  have hh : heedM st (tB (lnE e)) = none := by
    cases e with
    | inl r =>
      have hr := (mem_entsR st r).1 he
      show heedM st (tB (lnR r)) = _
      rw [heedM_rule (hg.gr r hr), has_self (nm := fun r : RuleD => r.1) hr]
      rfl
    | inr r =>
      have hr := (mem_entsQ st r).1 he
      show heedM st (tB (lnQ r)) = _
      rw [heedM_reader (hg.gq r hr), has_self (nm := fun r : ReaderD => r.1) hr]
      rfl
  rw [hh]
  simp only
  rw [Nat.add_comm]
/-- In whatever order, and with lines between that say nothing. -/
theorem parse_turned {st : PolD} (hg : GoodP st) {L : List (List UInt8)} {E : List Ent} (h : Says L E) (hp : E.Perm (ents st)) (hne : L ≠ []) (hL : ∀ l ∈ L, (10 : UInt8) ∉ l) : parseM (tB (glue 10 L)) = (some st, 0) := by
  rw [parseM_lines hne hL]
  have := runL_all hg h hp []
  rw [List.append_nil] at this
  rw [this]
  rfl
/-- The texts of two policies are the same just if they are. -/
theorem wrL_inj {a b : PolD} (ha : GoodP a) (hb : GoodP b) (h : wrL a = wrL b) : a = b := by
  have h1 := parse_write ha
  have h2 := parse_write hb
  rw [h, h2] at h1
  simpa using h1.symm

/-- How many bytes lines have, with their ends. -/
def szL (L : List (List UInt8)) : Nat := (L.map fun l => l.length + 1).sum
theorem szL_perm {L L' : List (List UInt8)} (h : L.Perm L') : szL L = szL L' := (h.map _).sum_nat
theorem wrL_size (st : PolD) : (wrL st).length = szL (lns st) := by
  unfold wrL szL
  generalize lns st = L
  induction L with
  | nil => rfl
  | cons l t ih => simp only [List.map_cons, List.flatten_cons, List.length_append, List.sum_cons, ih, List.length_cons, List.length_nil]
theorem lns_insR (r : RuleD) (st : PolD) : (lns (ins (α := RuleD) Prod.fst r st.1, st.2)).Perm (lnR r :: lns st) := List.Perm.append_right _ ((ins_perm r st.1).map _)
theorem lns_insQ (r : ReaderD) (st : PolD) : (lns (st.1, ins (α := ReaderD) Prod.fst r st.2)).Perm (lnQ r :: lns st) :=
  List.Perm.trans (List.Perm.append_left _ ((ins_perm r st.2).map _)) List.perm_middle

theorem goodP_heed {st st' : PolD} {l : List UInt8} (hg : GoodP st) (h : heedM st (tB l) = some st') : GoodP st' ∧ szL (lns st') ≤ szL (lns st) + (l.length + 1) := by
  rcases heedM_inv h with rfl | ⟨r, hr, rfl, hh, hl, rfl⟩ | ⟨r, hr, rfl, hh, hl, rfl⟩
  · exact ⟨hg, by omega⟩
  · refine ⟨⟨Srt.ins hg.sr hh, hg.sq, by rw [ins_length]; omega, hg.lq, ?_, hg.gq⟩, ?_⟩
    · intro x hx
      rcases (mem_ins r x st.1).1 hx with rfl | hx
      · exact hr
      · exact hg.gr x hx
    · rw [szL_perm (lns_insR r st)]
      unfold szL
      rw [List.map_cons, List.sum_cons]
      omega
  · refine ⟨⟨hg.sr, Srt.ins hg.sq hh, hg.lr, by rw [ins_length]; omega, hg.gr, ?_⟩, ?_⟩
    · intro x hx
      rcases (mem_ins r x st.2).1 hx with rfl | hx
      · exact hr
      · exact hg.gq x hx
    · rw [szL_perm (lns_insQ r st)]
      unfold szL
      rw [List.map_cons, List.sum_cons]
      omega
theorem runL_good : ∀ (L : List (List UInt8)) (k : Nat) (st : PolD), GoodP st →
    match runL k st L with
    | (some st', n) => n = 0 ∧ GoodP st' ∧ szL (lns st') ≤ szL (lns st) + szL L
    | (none, n) => k ≤ n ∧ n < k + L.length
  | [], k, st, hg => ⟨rfl, hg, by simp [szL]⟩
  | l :: t, k, st, hg => by
    unfold runL
    cases hh : heedM st (tB l) with
    | none => exact ⟨Nat.le_refl _, by simp⟩
    | some st' =>
      obtain ⟨h1, h2⟩ := goodP_heed hg hh
      have ih := runL_good t (k + 1) st' h1
      simp only
      revert ih
      generalize runL (k + 1) st' t = q
      obtain ⟨o, n⟩ := q
      cases o with
      | none =>
        rintro ⟨h3, h4⟩
        exact ⟨by omega, by simp; omega⟩
      | some st2 =>
        rintro ⟨h3, h4, h5⟩
        refine ⟨h3, h4, ?_⟩
        unfold szL at *
        rw [List.map_cons, List.sum_cons]
        omega
theorem goodP_nil : GoodP ([], []) := ⟨.nil, .nil, Nat.zero_le _, Nat.zero_le _, fun _ h => by simp at h, fun _ h => by simp at h⟩
/-- What could be parsed may be, and is no longer than the text; else a line is told that there is. -/
theorem parseM_good (s : ByteArray) : match parseM s with
    | (some st, n) => n = 0 ∧ GoodP st ∧ (wrL st).length ≤ s.size + 1
    | (none, n) => 1 ≤ n ∧ n ≤ s.data.toList.count 10 + 1 := by
  have h := runL_good (cutL 10 s.data.toList) 1 ([], []) goodP_nil
  rw [parseM_cut]
  have hl := cutL_len 10 s.data.toList
  have hs : szL (cutL 10 s.data.toList) = s.size + 1 := by
    have := glue_length 10 (cutL_ne 10 s.data.toList)
    rw [glue_cutL] at this
    unfold szL
    rw [← this]
    rfl
  revert h
  generalize runL 1 ([], []) (cutL 10 s.data.toList) = q
  obtain ⟨o, n⟩ := q
  cases o with
  | none =>
    rintro ⟨h1, h2⟩
    exact ⟨h1, by omega⟩
  | some st =>
    rintro ⟨h1, h2, h3⟩
    refine ⟨h1, h2, ?_⟩
    rw [wrL_size, ← hs]
    have : szL (lns (([], []) : PolD)) = 0 := rfl
    omega

theorem goodP_ok {st : PolD} (h : GoodP st) : okPol st.1 st.2 = true := by
  unfold okPol
  have h1 := (rises_srt (fun r : RuleD => r.1) st.1).2 h.sr
  have h2 := (rises_srt (fun r : ReaderD => r.1) st.2).2 h.sq
  have h3 : st.1.all okRule = true := List.all_eq_true.2 fun r hr => (h.gr r hr).1
  have h4 : st.2.all okReader = true := List.all_eq_true.2 fun r hr => (h.gq r hr).1
  rw [decide_eq_true h.lr, decide_eq_true h.lq, h3, h4]
  simp only [Bool.true_and, Bool.and_true, Bool.and_eq_true]
  exact ⟨h1, h2⟩
theorem ok_goodP {rs : List RuleD} {qs : List ReaderD} (h : okPol rs qs = true) (hr : ∀ r ∈ rs, 0 ≤ r.2.2 ∧ r.2.2 < 4294967296) (hq : ∀ r ∈ qs, 0 ≤ r.2.2.1 ∧ r.2.2.1 < 4294967296) : GoodP (rs, qs) := by
  obtain ⟨h1, h2, h3, h4⟩ := okPol_srt h
  unfold okPol at h
  simp only [Bool.and_eq_true, List.all_eq_true] at h
  exact ⟨h1, h2, h3, h4, fun r hm => ⟨h.1.2 r hm, hr r hm⟩, fun r hm => ⟨h.2.2 r hm, hq r hm⟩⟩

/-- A line is short. -/
theorem itoa_len (n : Int) (h0 : 0 ≤ n) (h1 : n ≤ 1000000) : (Lib.itoa n).length ≤ 7 := by
  have e : Lib.itoa n = Lib.decDigits n.toNat := by unfold Lib.itoa; rw [if_neg (by omega)]
  rw [e, Lib.decDigits_length]
  by_cases h : n.toNat < 10
  · rw [Lib.nDigits_small h]; omega
  · have : ∀ k u, u < 10 ^ (k + 1) → Lib.nDigits u ≤ k + 1 := by
      intro k
      induction k with
      | zero => intro u hu; rw [Lib.nDigits_small (by simpa using hu)]; omega
      | succ k ih =>
        intro u hu
        by_cases h : u < 10
        · rw [Lib.nDigits_small h]; omega
        · rw [Lib.nDigits_big h]
          have := ih (u / 10) (by rw [Nat.pow_succ] at hu; omega)
          omega
    exact this 6 n.toNat (by omega)
theorem lnR_len {r : RuleD} (h : okRule r = true) : (lnR r).length ≤ 40 := by
  have h1 := nm_size (okRule_parts h).1
  have h2 := (text_size r.2.1.toNat r.2.2.toNat).2
  have e1 : r.1.data.toList.length = r.1.size := rfl
  have e2 : (labT r.2.1 r.2.2).length = (textOf r.2.1.toNat r.2.2.toNat).size := rfl
  unfold lnR wdR glue glue glue
  simp only [List.length_append, List.length_cons, List.length_nil, e1, e2]
  omega
theorem lnQ_len {r : ReaderD} (h : okReader r = true) : (lnQ r).length ≤ 58 := by
  obtain ⟨h1, _, ⟨h4, h5⟩, h6, h7⟩ := okReader_parts h
  have h1 := nm_size h1
  have h2 := (text_size r.2.1.toNat r.2.2.1.toNat).2
  have e1 : r.1.data.toList.length = r.1.size := rfl
  have e2 : (labT r.2.1 r.2.2.1).length = (textOf r.2.1.toNat r.2.2.1.toNat).size := rfl
  have h8 := itoa_len r.2.2.2.1 (by omega) (by omega)
  have h9 := itoa_len r.2.2.2.2 (by omega) (by omega)
  unfold lnQ wdQ glue glue glue glue glue
  simp only [List.length_append, List.length_cons, List.length_nil, e1, e2]
  omega
theorem szL_app (a b : List (List UInt8)) : szL (a ++ b) = szL a + szL b := by simp [szL]
theorem szL_le {L : List (List UInt8)} {n : Nat} (h : ∀ l ∈ L, l.length + 1 ≤ n) : szL L ≤ L.length * n := by
  induction L with
  | nil => simp [szL]
  | cons l t ih =>
    have h1 := h l (by simp)
    have h2 := ih fun x hx => h x (List.mem_cons_of_mem _ hx)
    unfold szL at *
    rw [List.map_cons, List.sum_cons, List.length_cons, Nat.succ_mul]
    omega
theorem wrL_le {st : PolD} (h : GoodP st) : (wrL st).length ≤ 4000 := by
  rw [wrL_size]
  unfold lns
  rw [szL_app]
  have h1 := szL_le (L := st.1.map lnR) (n := 41) (by
    intro l hl
    obtain ⟨r, hr, rfl⟩ := List.mem_map.1 hl
    have := lnR_len (h.gr r hr).1
    omega)
  have h2 := szL_le (L := st.2.map lnQ) (n := 59) (by
    intro l hl
    obtain ⟨r, hr, rfl⟩ := List.mem_map.1 hl
    have := lnQ_len (h.gq r hr).1
    omega)
  rw [List.length_map] at h1 h2
  have := h.lr
  have := h.lq
  omega

end Go.Proofs.YtcigbfjmnhogiabGreatDoor
