/- Names in their order; rows that rise; a row with one more: plain words. -/
import Derived.Lib.Bytealg
import GoSem.Op.String
import Derived.Laws.Strings
namespace Go.Proofs.YtcigbfjmnhogiabGreatDoor
set_option linter.unusedVariables false

/-- a stands ahead of b. -/
def lts (a b : ByteArray) : Bool := Op.bytesLess a.data.toList b.data.toList
/-- The same bytes. -/
def eqs (a b : ByteArray) : Bool := a.data.toList == b.data.toList

theorem ba_ext {a b : ByteArray} (h : a.data.toList = b.data.toList) : a = b := by
  obtain ⟨⟨x⟩⟩ := a
  obtain ⟨⟨y⟩⟩ := b
  simp at h
  rw [h]
theorem eqs_iff (a b : ByteArray) : eqs a b = true ↔ a = b := by
  unfold eqs
  rw [beq_iff_eq]
  exact ⟨ba_ext, fun h => by rw [h]⟩
theorem eqs_self (a : ByteArray) : eqs a a = true := (eqs_iff a a).2 rfl
theorem eqs_false {a b : ByteArray} (h : a ≠ b) : eqs a b = false := by
  cases hh : eqs a b
  · rfl
  · exact absurd ((eqs_iff a b).1 hh) h

theorem bl_irr : ∀ x : List UInt8, Op.bytesLess x x = false
  | [] => rfl
  | a :: x => by
    simp only [Op.bytesLess, bl_irr x, Bool.and_false, Bool.or_false, decide_eq_false_iff_not]
    exact UInt8.lt_irrefl a
theorem bl_trans : ∀ x y z : List UInt8, Op.bytesLess x y = true → Op.bytesLess y z = true → Op.bytesLess x z = true
  | [], [], _, h, _ => by simp [Op.bytesLess] at h
  | _ :: _, [], _, h, _ => by simp [Op.bytesLess] at h
  | _, _ :: _, [], _, h => by simp [Op.bytesLess] at h
  | [], _ :: _, _ :: _, _, _ => by simp [Op.bytesLess]
  | a :: x, b :: y, c :: z, h, k => by
    simp only [Op.bytesLess, Bool.or_eq_true, Bool.and_eq_true, decide_eq_true_eq, beq_iff_eq] at h k ⊢
    rcases h with h | ⟨rfl, h⟩
    · rcases k with k | ⟨rfl, k⟩
      · exact Or.inl (UInt8.lt_trans h k)
      · exact Or.inl h
    · rcases k with k | ⟨rfl, k⟩
      · exact Or.inl k
      · exact Or.inr ⟨rfl, bl_trans x y z h k⟩
theorem bl_tot : ∀ x y : List UInt8, Op.bytesLess x y = false → Op.bytesLess y x = false → x = y
  | [], [], _, _ => rfl
  | _ :: _, [], _, h => by simp [Op.bytesLess] at h
  | [], _ :: _, h, _ => by simp [Op.bytesLess] at h
  | a :: x, b :: y, h, k => by
    simp only [Op.bytesLess, Bool.or_eq_false_iff, decide_eq_false_iff_not] at h k
    obtain ⟨h1, h2⟩ := h
    obtain ⟨k1, k2⟩ := k
    have e : a = b := UInt8.le_antisymm (UInt8.not_lt.1 k1) (UInt8.not_lt.1 h1)
    subst e
    simp only [beq_self_eq_true, Bool.true_and] at h2 k2
    rw [bl_tot x y h2 k2]
theorem cmp_bl : ∀ x y : List UInt8, (Lib.compareBytes x y < 0 ↔ Op.bytesLess x y = true) ∧ (Lib.compareBytes x y = 0 ↔ x = y) ∧ -1 ≤ Lib.compareBytes x y ∧ Lib.compareBytes x y ≤ 1
  | [], [] => by simp [Lib.compareBytes, Op.bytesLess]
  | _ :: _, [] => by simp [Lib.compareBytes, Op.bytesLess]
  | [], _ :: _ => by simp [Lib.compareBytes, Op.bytesLess]
  | a :: x, b :: y => by
    have ih := cmp_bl x y
    unfold Lib.compareBytes
    simp only [Op.bytesLess, Bool.or_eq_true, Bool.and_eq_true, decide_eq_true_eq, beq_iff_eq, List.cons.injEq]
    by_cases h1 : a < b
    · have hne : a ≠ b := fun e => by rw [e] at h1; exact UInt8.lt_irrefl b h1
      simp [h1, hne]
    · by_cases h2 : b < a
      · have hne : a ≠ b := fun e => by rw [e] at h2; exact UInt8.lt_irrefl b h2
        simp [h1, h2, hne]
      · have e : a = b := UInt8.le_antisymm (UInt8.not_lt.1 h2) (UInt8.not_lt.1 h1)
        subst e
        simp [h1, ih]

theorem lts_irr (a : ByteArray) : lts a a = false := bl_irr _
theorem lts_trans {a b c : ByteArray} (h : lts a b = true) (k : lts b c = true) : lts a c = true := bl_trans _ _ _ h k
theorem lts_tot {a b : ByteArray} (h : lts a b = false) (k : lts b a = false) : a = b := ba_ext (bl_tot _ _ h k)
theorem lts_ne {a b : ByteArray} (h : lts a b = true) : a ≠ b := fun e => by rw [e, lts_irr] at h; cases h
theorem lts_asym {a b : ByteArray} (h : lts a b = true) : lts b a = false := by
  cases hh : lts b a
  · rfl
  · have := lts_trans h hh
    rw [lts_irr] at this
    cases this

variable {α : Type} (nm : α → ByteArray)

/-- Names rise. -/
def Srt (xs : List α) : Prop := xs.Pairwise fun a b => lts (nm a) (nm b) = true
/-- Each one stands ahead of the next. -/
def rises : List α → Bool
  | [] => true
  | a :: t => (match t with | [] => true | b :: _ => lts (nm a) (nm b)) && rises t
/-- One of this name is there. -/
def has (n : ByteArray) (xs : List α) : Bool := xs.any fun y => eqs (nm y) n
/-- How many stand ahead of this name. -/
def pos (n : ByteArray) (xs : List α) : Nat := xs.countP fun y => lts (nm y) n
/-- One more, in its place. -/
def ins (x : α) : List α → List α
  | [] => [x]
  | y :: t => if lts (nm y) (nm x) then y :: ins x t else x :: y :: t

theorem rises_srt : ∀ xs : List α, rises nm xs = true ↔ Srt nm xs
  | [] => by simp [rises, Srt]
  | [a] => by simp [rises, Srt]
  | a :: b :: t => by
    have ih := rises_srt (b :: t)
    unfold rises
    simp only [Bool.and_eq_true]
    rw [ih]
    unfold Srt
    rw [List.pairwise_cons (l := b :: t)]
    constructor
    · rintro ⟨h, k⟩
      refine ⟨fun c hc => ?_, k⟩
      rcases List.mem_cons.1 hc with rfl | hc
      · exact h
      · exact lts_trans h ((List.pairwise_cons.1 k).1 c hc)
    · rintro ⟨h, k⟩
      exact ⟨h b (by simp), k⟩

variable {nm}

theorem Srt.get {xs : List α} (h : Srt nm xs) {i j : Nat} (hij : i < j) (hj : j < xs.length) : lts (nm xs[i]) (nm xs[j]) = true :=
  List.pairwise_iff_getElem.1 h i j (by omega) hj hij

theorem rises_at {xs : List α} [Inhabited α] (h : ∀ i, i + 1 < xs.length → lts (nm xs[i]!) (nm xs[i + 1]!) = true) : rises nm xs = true := by
  induction xs with
  | nil => rfl
  | cons a t ih =>
    unfold rises
    rw [Bool.and_eq_true]
    refine ⟨?_, ih fun i hi => ?_⟩
    · cases t with
      | nil => rfl
      | cons b t => exact h 0 (by simp)
    · have := h (i + 1) (by simpa using hi)
      simpa using this
theorem rises_not {xs : List α} [Inhabited α] {i : Nat} (hi : i + 1 < xs.length) (h : lts (nm xs[i]!) (nm xs[i + 1]!) = false) : rises nm xs = false := by
  cases hh : rises nm xs
  · rfl
  · have := ((rises_srt nm xs).1 hh).get (Nat.lt_succ_self i) hi
    rw [getElem!_pos xs i (by omega), getElem!_pos xs (i + 1) hi, this] at h
    cases h

theorem pos_le (n : ByteArray) (xs : List α) : pos nm n xs ≤ xs.length := List.countP_le_length

/-- In a row that rises what stands ahead of a name stands ahead of the rest. -/
theorem pos_lt {xs : List α} (h : Srt nm xs) (n : ByteArray) (i : Nat) (hi : i < xs.length) : lts (nm xs[i]) n = decide (i < pos nm n xs) := by
  induction xs generalizing i with
  | nil => simp at hi
  | cons a t ih =>
    unfold Srt at h
    rw [List.pairwise_cons] at h
    cases ha : lts (nm a) n
    · have hp : pos nm n (a :: t) = 0 := by
        unfold pos
        rw [List.countP_eq_zero]
        intro y hy
        rcases List.mem_cons.1 hy with rfl | hy
        · simp [ha]
        · intro hyn
          have := lts_trans (h.1 y hy) hyn
          rw [ha] at this
          cases this
      rw [hp]
      cases i with
      | zero => simp [ha]
      | succ i =>
        simp only [List.getElem_cons_succ]
        cases hh : lts (nm (t[i]'(by simpa using hi))) n
        · rfl
        · have := lts_trans (h.1 _ (List.getElem_mem (by simpa using hi))) hh
          rw [ha] at this
          cases this
    · have hp : pos nm n (a :: t) = pos nm n t + 1 := by
        unfold pos
        rw [List.countP_cons_of_pos (by simpa using ha)]
      rw [hp]
      cases i with
      | zero => simp [ha]
      | succ i =>
        simp only [List.getElem_cons_succ]
        rw [ih h.2 i (by simpa using hi)]
        simp

/-- A place that parts a row is that of the name. -/
theorem pos_at {xs : List α} [Inhabited α] {n : ByteArray} {i : Nat} (hi : i ≤ xs.length) (h1 : ∀ t, t < i → lts (nm xs[t]!) n = true) (h2 : ∀ t, i ≤ t → t < xs.length → lts (nm xs[t]!) n = false) : pos nm n xs = i := by
  induction xs generalizing i with
  | nil => simp at hi; simp [pos, hi]
  | cons a t ih =>
    cases i with
    | zero =>
      unfold pos
      rw [List.countP_eq_zero]
      intro y hy
      obtain ⟨k, hk, rfl⟩ := List.getElem_of_mem hy
      have := h2 k (Nat.zero_le _) hk
      rw [getElem!_pos (a :: t) k hk] at this
      simp [this]
    | succ i =>
      have ha : lts (nm a) n = true := by simpa using h1 0 (Nat.succ_pos _)
      unfold pos
      rw [List.countP_cons_of_pos (by simpa using ha)]
      have := ih (i := i) (by simpa using hi) (fun k hk => by simpa using h1 (k + 1) (by omega)) (fun k h3 h4 => by simpa using h2 (k + 1) (by omega) (by simpa using h4))
      unfold pos at this
      rw [this]

/-- The name is there just if the one at its place has it. -/
theorem has_at {xs : List α} [Inhabited α] (h : Srt nm xs) (n : ByteArray) : has nm n xs = (decide (pos nm n xs < xs.length) && eqs (nm xs[pos nm n xs]!) n) := by
  by_cases hp : pos nm n xs < xs.length
  · rw [decide_eq_true hp, Bool.true_and]
    cases he : eqs (nm xs[pos nm n xs]!) n
    · unfold has
      rw [List.any_eq_false]
      intro y hy hyn
      obtain ⟨k, hk, rfl⟩ := List.getElem_of_mem hy
      have hyn' := (eqs_iff _ _).1 hyn
      have hk1 := pos_lt h n k hk
      rw [hyn', lts_irr] at hk1
      have hk2 : ¬ k < pos nm n xs := by simpa using hk1.symm
      rw [getElem!_pos xs _ hp] at he
      by_cases hkp : k = pos nm n xs
      · have : eqs (nm xs[k]) n = true := hyn
        have e : xs[k] = xs[pos nm n xs] := by congr 1
        rw [e, he] at this
        cases this
      · have h3 := h.get (i := pos nm n xs) (j := k) (by omega) hk
        rw [hyn'] at h3
        have h4 := pos_lt h n (pos nm n xs) hp
        rw [h3] at h4
        simp at h4
    · unfold has
      rw [List.any_eq_true]
      rw [getElem!_pos xs _ hp] at he
      exact ⟨_, List.getElem_mem hp, he⟩
  · rw [decide_eq_false hp, Bool.false_and]
    unfold has
    rw [List.any_eq_false]
    intro y hy hyn
    obtain ⟨k, hk, rfl⟩ := List.getElem_of_mem hy
    have hyn' := (eqs_iff _ _).1 hyn
    have hk1 := pos_lt h n k hk
    rw [hyn', lts_irr] at hk1
    have hk2 : ¬ k < pos nm n xs := by simpa using hk1.symm
    have := pos_le (nm := nm) n xs
    omega

theorem has_self {xs : List α} {x : α} (h : x ∈ xs) : has nm (nm x) xs = true := by
  unfold has
  rw [List.any_eq_true]
  exact ⟨x, h, eqs_self _⟩
theorem has_not {xs : List α} {n : ByteArray} : has nm n xs = false ↔ ∀ y ∈ xs, nm y ≠ n := by
  unfold has
  rw [List.any_eq_false]
  constructor
  · intro h y hy e
    exact h y hy ((eqs_iff _ _).2 e)
  · intro h y hy e
    exact h y hy ((eqs_iff _ _).1 e)

/-- One that is there stands at its name's place. -/
theorem pos_self {xs : List α} (h : Srt nm xs) (i : Nat) (hi : i < xs.length) : pos nm (nm xs[i]) xs = i := by
  have h1 := pos_lt h (nm xs[i]) i hi
  rw [lts_irr] at h1
  have h2 : ¬ i < pos nm (nm xs[i]) xs := by simpa using h1.symm
  have h3 := pos_le (nm := nm) (nm xs[i]) xs
  by_cases h4 : pos nm (nm xs[i]) xs < i
  · have h5 := pos_lt h (nm xs[i]) (pos nm (nm xs[i]) xs) (by omega)
    rw [h.get h4 hi] at h5
    simp at h5
  · omega

theorem ins_eq (x : α) : ∀ {xs : List α}, Srt nm xs → ins nm x xs = xs.take (pos nm (nm x) xs) ++ x :: xs.drop (pos nm (nm x) xs)
  | [], _ => rfl
  | y :: t, h => by
    have h' := h
    unfold Srt at h'
    rw [List.pairwise_cons] at h'
    unfold ins
    cases hy : lts (nm y) (nm x)
    · have hp : pos nm (nm x) (y :: t) = 0 := by
        have h1 := pos_lt h (nm x) 0 (by simp)
        simp only [List.getElem_cons_zero, hy] at h1
        have : ¬ 0 < pos nm (nm x) (y :: t) := by simpa using h1.symm
        omega
      rw [hp]
      simp
    · have hp : pos nm (nm x) (y :: t) = pos nm (nm x) t + 1 := by
        unfold pos
        rw [List.countP_cons_of_pos (by simpa using hy)]
      rw [hp, if_pos rfl, ins_eq x h'.2]
      simp

theorem mem_ins (x a : α) : ∀ xs : List α, a ∈ ins nm x xs ↔ a = x ∨ a ∈ xs
  | [] => by simp [ins]
  | y :: t => by
    unfold ins
    split
    · rw [List.mem_cons, mem_ins x a t, List.mem_cons]
      constructor
      · rintro (h | h | h)
        · exact Or.inr (Or.inl h)
        · exact Or.inl h
        · exact Or.inr (Or.inr h)
      · rintro (h | h | h)
        · exact Or.inr (Or.inl h)
        · exact Or.inl h
        · exact Or.inr (Or.inr h)
    · rw [List.mem_cons]

theorem ins_length (x : α) : ∀ xs : List α, (ins nm x xs).length = xs.length + 1
  | [] => rfl
  | y :: t => by
    unfold ins
    split
    · rw [List.length_cons, ins_length x t, List.length_cons]
    · rfl

theorem Srt.ins {x : α} : ∀ {xs : List α}, Srt nm xs → has nm (nm x) xs = false → Srt nm (ins nm x xs)
  | [], _, _ => by simp [Srt, YtcigbfjmnhogiabGreatDoor.ins]
  | y :: t, h, hx => by
    have h' := h
    unfold Srt at h'
    rw [List.pairwise_cons] at h'
    rw [has_not] at hx
    unfold YtcigbfjmnhogiabGreatDoor.ins
    cases hy : lts (nm y) (nm x)
    · simp only [Bool.false_eq_true, if_false]
      have hxy : lts (nm x) (nm y) = true := by
        cases hh : lts (nm x) (nm y)
        · exact absurd (lts_tot hy hh) (hx y (by simp))
        · rfl
      unfold Srt
      rw [List.pairwise_cons]
      refine ⟨fun c hc => ?_, h⟩
      rcases List.mem_cons.1 hc with rfl | hc
      · exact hxy
      · exact lts_trans hxy (h'.1 c hc)
    · simp only [if_true]
      unfold Srt
      rw [List.pairwise_cons]
      refine ⟨fun c hc => ?_, Srt.ins h'.2 (has_not.2 fun z hz => hx z (by simp [hz]))⟩
      rcases (mem_ins x c t).1 hc with rfl | hc
      · exact hy
      · exact h'.1 c hc

/-- Rows that rise and hold the same are the same. -/
theorem srt_ext : ∀ {xs ys : List α}, Srt nm xs → Srt nm ys → (∀ a, a ∈ xs ↔ a ∈ ys) → xs = ys
  | [], [], _, _, _ => rfl
  | [], y :: t, _, _, h => absurd ((h y).2 (by simp)) (by simp)
  | x :: s, [], _, _, h => absurd ((h x).1 (by simp)) (by simp)
  | x :: s, y :: t, hx, hy, h => by
    unfold Srt at hx hy
    rw [List.pairwise_cons] at hx hy
    have e : x = y := by
      rcases List.mem_cons.1 ((h x).1 (by simp)) with e | hxt
      · exact e
      · rcases List.mem_cons.1 ((h y).2 (by simp)) with e | hys
        · exact e.symm
        · have := lts_trans (hx.1 y hys) (hy.1 x hxt)
          rw [lts_irr] at this
          cases this
    subst e
    rw [srt_ext hx.2 hy.2 fun a => ?_]
    have ha := h a
    rw [List.mem_cons, List.mem_cons] at ha
    constructor
    · intro hs
      rcases ha.1 (Or.inr hs) with rfl | ht
      · have := hx.1 a hs
        rw [lts_irr] at this
        cases this
      · exact ht
    · intro ht
      rcases ha.2 (Or.inr ht) with rfl | hs
      · have := hy.1 a ht
        rw [lts_irr] at this
        cases this
      · exact hs

end Go.Proofs.YtcigbfjmnhogiabGreatDoor
