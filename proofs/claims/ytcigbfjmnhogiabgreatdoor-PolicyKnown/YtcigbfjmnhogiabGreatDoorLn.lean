/- Texts as lists of lines: Parse, line by line. -/
import Derived.Test.YtcigbfjmnhogiabGreatDoorPa
import Derived.Lib.Join
namespace Go.Proofs.YtcigbfjmnhogiabGreatDoor
open Go.RowKit
set_option linter.unusedVariables false

/-- A text of these bytes. -/
abbrev tB (l : List UInt8) : ByteArray := ⟨l.toArray⟩

theorem tB_size (l : List UInt8) : (tB l).size = l.length := by simp [ByteArray.size]
theorem tB_data (l : List UInt8) : (tB l).data.toList = l := rfl
theorem tB_of (s : ByteArray) : tB s.data.toList = s := ba_ext rfl
theorem tB_inj {a b : List UInt8} (h : tB a = tB b) : a = b := by
  have := congrArg (fun s : ByteArray => s.data.toList) h
  exact this
theorem tB_ext (l : List UInt8) (a b : Nat) : (tB l).extract a b = tB ((l.drop a).take (b - a)) := by
  apply ba_ext
  rw [ByteArray.data_extract]
  simp
theorem tB_get (l : List UInt8) (i : Nat) (h : i < l.length) : (tB l)[i]! = l[i] := by
  have h' : i < (tB l).size := by rw [tB_size]; exact h
  rw [getElem!_pos (tB l) i h']
  rfl

theorem first_none (l : List UInt8) (c : UInt8) (h : c ∉ l) : firstIdx (tB l) c = -1 := by
  unfold firstIdx
  have : (List.range (tB l).size).find? (fun i => (tB l)[i]! == c) = none := by
    rw [List.find?_eq_none]
    intro i hi he
    have hi' : i < l.length := by have := List.mem_range.1 hi; rwa [tB_size] at this
    rw [tB_get l i hi', beq_iff_eq] at he
    exact h (he ▸ List.getElem_mem hi')
  rw [this]
theorem first_some (l r : List UInt8) (c : UInt8) (h : c ∉ l) : firstIdx (tB (l ++ c :: r)) c = (l.length : Int) := by
  unfold firstIdx
  have : (List.range (tB (l ++ c :: r)).size).find? (fun i => (tB (l ++ c :: r))[i]! == c) = some l.length := by
    rw [List.find?_range_eq_some]
    refine ⟨?_, ?_, ?_⟩
    · rw [tB_get _ _ (by simp)]
      simp
    · rw [List.mem_range, tB_size]
      simp
    · intro j hj
      rw [tB_get _ _ (by simp; omega), List.getElem_append_left hj]
      rw [Bool.not_eq_true', beq_eq_false_iff_ne]
      intro e
      exact h (e ▸ List.getElem_mem hj)
  rw [this]
theorem first_split (s : ByteArray) (c : UInt8) : (firstIdx s c = -1 ∧ c ∉ s.data.toList) ∨ ∃ l r, s.data.toList = l ++ c :: r ∧ c ∉ l ∧ firstIdx s c = (l.length : Int) := by
  by_cases h : c ∈ s.data.toList
  · obtain ⟨l, r, he, hl⟩ := List.eq_append_cons_of_mem h
    refine Or.inr ⟨l, r, he, hl, ?_⟩
    rw [← tB_of s, he]
    exact first_some l r c hl
  · refine Or.inl ⟨?_, h⟩
    rw [← tB_of s]
    exact first_none _ c h
theorem ext_left (l r : List UInt8) (c : UInt8) : (tB (l ++ c :: r)).extract 0 l.length = tB l := by
  rw [tB_ext]; simp
theorem ext_right (l r : List UInt8) (c : UInt8) : (tB (l ++ c :: r)).extract (l.length + 1) (tB (l ++ c :: r)).size = tB r := by
  rw [tB_ext, tB_size]
  congr 1
  have : (l ++ c :: r).drop (l.length + 1) = r := by
    rw [List.drop_append, List.drop_eq_nil_of_le (by omega)]
    simp
  rw [this]
  apply List.take_of_length_le
  simp
  omega

/-- Pieces, with a byte between. -/
def glue (c : UInt8) : List (List UInt8) → List UInt8
  | [] => []
  | [x] => x
  | x :: y :: t => x ++ c :: glue c (y :: t)
theorem glue_cons (c : UInt8) (x : List UInt8) {t : List (List UInt8)} (h : t ≠ []) : glue c (x :: t) = x ++ c :: glue c t := by
  cases t with
  | nil => exact absurd rfl h
  | cons y t => rfl
theorem glue_snoc (c : UInt8) (y : List UInt8) : ∀ xs : List (List UInt8), glue c (xs ++ [y]) = (xs.map (· ++ [c])).flatten ++ y
  | [] => rfl
  | x :: t => by
    rw [List.cons_append, glue_cons c x (by simp), glue_snoc c y t]
    simp
theorem glue_length (c : UInt8) : ∀ {xs : List (List UInt8)}, xs ≠ [] → (glue c xs).length + 1 = (xs.map fun x => x.length + 1).sum
  | [x], _ => by simp [glue]
  | x :: y :: t, _ => by
    have ih := glue_length c (xs := y :: t) (by simp)
    rw [glue_cons c x (by simp), List.map_cons, List.sum_cons, ← ih]
    simp
    omega
theorem glue_join (c : UInt8) : ∀ xs : List (List UInt8), glue c xs = Lib.join xs [c]
  | [] => rfl
  | [x] => (Lib.join_one x [c]).symm
  | x :: y :: t => by
    have ih := glue_join c (y :: t)
    rw [glue_cons c x (by simp), ih, Lib.join_cons, Lib.join_cons]
    simp [Lib.joinTail]

/-- A text, parted at each such byte. -/
def cutL (c : UInt8) : List UInt8 → List (List UInt8)
  | [] => [[]]
  | b :: t => if b == c then [] :: cutL c t else match cutL c t with | [] => [[b]] | x :: r => (b :: x) :: r
theorem cutL_ne (c : UInt8) (l : List UInt8) : cutL c l ≠ [] := by
  cases l with
  | nil => simp [cutL]
  | cons b t => unfold cutL; split; simp; split <;> simp
theorem cutL_none (c : UInt8) : ∀ {l : List UInt8}, c ∉ l → cutL c l = [l]
  | [], _ => rfl
  | b :: t, h => by
    have hb : (b == c) = false := beq_eq_false_iff_ne.2 fun e => h (by simp [e])
    unfold cutL
    rw [hb, cutL_none c (l := t) fun hh => h (List.mem_cons_of_mem _ hh)]
    rfl
theorem cutL_some (c : UInt8) (r : List UInt8) : ∀ {l : List UInt8}, c ∉ l → cutL c (l ++ c :: r) = l :: cutL c r
  | [], _ => by simp [cutL]
  | b :: t, h => by
    have hb : (b == c) = false := beq_eq_false_iff_ne.2 fun e => h (by simp [e])
    rw [List.cons_append, cutL, hb, cutL_some c r (l := t) fun hh => h (List.mem_cons_of_mem _ hh)]
    rfl
theorem cutL_glue (c : UInt8) : ∀ {xs : List (List UInt8)}, xs ≠ [] → (∀ x ∈ xs, c ∉ x) → cutL c (glue c xs) = xs
  | [x], _, h => cutL_none c (h x (by simp))
  | x :: y :: t, _, h => by
    rw [glue_cons c x (by simp), cutL_some c _ (h x (by simp)), cutL_glue c (xs := y :: t) (by simp) fun z hz => h z (List.mem_cons_of_mem _ hz)]
theorem glue_cutL (c : UInt8) : ∀ l : List UInt8, glue c (cutL c l) = l
  | [] => rfl
  | b :: t => by
    have ih := glue_cutL c t
    unfold cutL
    by_cases h : b = c
    · subst h
      rw [if_pos (beq_self_eq_true b), glue_cons b [] (cutL_ne b t), ih]
      rfl
    · rw [if_neg (by simpa using h)]
      cases hx : cutL c t with
      | nil => exact absurd hx (cutL_ne c t)
      | cons x r =>
        rw [hx] at ih
        rw [← ih]
        cases r <;> rfl
theorem cutL_mem (c : UInt8) : ∀ (l : List UInt8), ∀ x ∈ cutL c l, c ∉ x
  | [], x, h => by simp [cutL] at h; simp [h]
  | b :: t, x, h => by
    have ih := cutL_mem c t
    unfold cutL at h
    by_cases hb : b = c
    · rw [if_pos (by simpa using hb)] at h
      rcases List.mem_cons.1 h with rfl | h
      · simp
      · exact ih x h
    · rw [if_neg (by simpa using hb)] at h
      cases hx : cutL c t with
      | nil => exact absurd hx (cutL_ne c t)
      | cons y r =>
        rw [hx] at h ih
        rcases List.mem_cons.1 h with rfl | h
        · intro hh
          rcases List.mem_cons.1 hh with e | hh
          · exact hb e.symm
          · exact ih y (by simp) hh
        · exact ih x (List.mem_cons_of_mem _ h)
theorem cutL_len (c : UInt8) : ∀ l : List UInt8, (cutL c l).length = l.count c + 1
  | [] => rfl
  | b :: t => by
    have ih := cutL_len c t
    unfold cutL
    by_cases hb : b = c
    · rw [if_pos (by simpa using hb), List.length_cons, ih, hb, List.count_cons_self]
    · rw [if_neg (by simpa using hb), List.count_cons_of_ne hb]
      cases hx : cutL c t with
      | nil => exact absurd hx (cutL_ne c t)
      | cons y r => rw [hx] at ih; exact ih

/-- Lines, one behind the other. -/
def runL : Nat → PolD → List (List UInt8) → Option PolD × Nat
  | _, st, [] => (some st, 0)
  | k, st, l :: t => match heedM st (tB l) with
    | none => (none, k)
    | some st' => runL (k + 1) st' t

theorem heedM_nil (st : PolD) : heedM st (tB []) = some st := rfl

theorem parseF_lines : ∀ (xs : List (List UInt8)) (f k : Nat) (st : PolD), xs ≠ [] → (∀ x ∈ xs, (10 : UInt8) ∉ x) → (glue 10 xs).length ≤ f → parseF f k st (tB (glue 10 xs)) = runL k st xs
  | [x], f, k, st, _, h, hf => by
    have hx := h x (by simp)
    show parseF f k st (tB x) = runL k st [x]
    cases x with
    | nil =>
      rw [parseF_nil f k st _ (by rw [tB_size]; rfl)]
      unfold runL
      rw [heedM_nil]
      rfl
    | cons b t =>
      cases f with
      | zero => simp [glue] at hf
      | succ f =>
        rw [parseF_miss (by rw [tB_size]; simp) (first_none _ 10 hx)]
        unfold runL
        cases heedM st (tB (b :: t)) with
        | none => rfl
        | some st' => exact parseF_nil f (k + 1) st' _ rfl
  | x :: y :: t, f, k, st, _, h, hf => by
    have hx := h x (by simp)
    have e := glue_cons 10 x (t := y :: t) (by simp)
    rw [e] at hf ⊢
    cases f with
    | zero => simp at hf
    | succ f =>
      rw [parseF_hit (by rw [tB_size]; simp) (first_some _ _ 10 hx), ext_left, ext_right]
      unfold runL
      cases heedM st (tB x) with
      | none => rfl
      | some st' => exact parseF_lines (y :: t) f (k + 1) st' (by simp) (fun z hz => h z (List.mem_cons_of_mem _ hz)) (by simp at hf; omega)

/-- Parse goes through the lines. -/
theorem parseM_lines {xs : List (List UInt8)} (hne : xs ≠ []) (h : ∀ x ∈ xs, (10 : UInt8) ∉ x) : parseM (tB (glue 10 xs)) = runL 1 ([], []) xs := by
  unfold parseM
  exact parseF_lines xs _ 1 _ hne h (by rw [tB_size]; exact Nat.le_refl _)
theorem parseM_cut (s : ByteArray) : parseM s = runL 1 ([], []) (cutL 10 s.data.toList) := by
  have := parseM_lines (cutL_ne 10 s.data.toList) (cutL_mem 10 _)
  rwa [glue_cutL, tB_of] at this

theorem splW_cut : ∀ (k : Nat) (l : List UInt8), (cutL 32 l).length ≤ k + 1 → splW k (tB l) = (cutL 32 l).map tB
  | 0, l, h => by
    have : (32 : UInt8) ∉ l := by
      intro hm
      rw [cutL_len] at h
      have := List.count_pos_iff.2 hm
      omega
    rw [cutL_none 32 this]
    rfl
  | k + 1, l, h => by
    by_cases hm : (32 : UInt8) ∈ l
    · obtain ⟨a, b, rfl, ha⟩ := List.eq_append_cons_of_mem hm
      rw [splW_hit k _ _ (first_some a b 32 ha), ext_left, ext_right, cutL_some 32 b ha, splW_cut k b (by rw [cutL_some 32 b ha] at h; simpa using h)]
      rfl
    · rw [splW_miss _ _ (first_none l 32 hm), cutL_none 32 hm]
      rfl
/-- Where there are more pieces than that, one more is made. -/
theorem splW_more : ∀ (k : Nat) (l : List UInt8), k + 1 < (cutL 32 l).length → (splW k (tB l)).length = k + 1
  | 0, l, h => rfl
  | k + 1, l, h => by
    by_cases hm : (32 : UInt8) ∈ l
    · obtain ⟨a, b, rfl, ha⟩ := List.eq_append_cons_of_mem hm
      rw [splW_hit k _ _ (first_some a b 32 ha), ext_right, List.length_cons, splW_more k b (by rw [cutL_some 32 b ha] at h; simpa using h)]
    · rw [cutL_none 32 hm] at h
      simp at h

end Go.Proofs.YtcigbfjmnhogiabGreatDoor
