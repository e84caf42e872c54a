/- Regions that draw their order, operation by operation: what each leaves is said once, whatever came ahead; behind them come those that wait for all (stores, assignments), in their order. -/
import Derived.Test.YteifaipbckhoiabMe
namespace Go.Proofs.Yteifaipbckhoiab
open Go.RowKit
set_option linter.unusedVariables false

/-- The frame once these operations have yielded these values. -/
def puts (a : Act) : List Oper → List Value → Act
  | o :: os, v :: vs => puts (a.put o.dst v) os vs
  | _, _ => a

theorem put_put (a : Act) (d : Option Tmp) (u v : Value) : (a.put d u).put d v = a.put d v := by
  cases d with
  | none => rfl
  | some d => simp [Act.put]
theorem put_ne (a : Act) (d d' : Tmp) (u v : Value) (h : d ≠ d') : (a.put (some d) u).put (some d') v = (a.put (some d') v).put (some d) u := by
  simp only [Act.put]
  rw [Array.setIfInBounds_comm _ _ h]

theorem puts_comm (d : Tmp) (v : Value) : ∀ (os : List Oper) (vs : List Value) (a : Act), (∀ o ∈ os, o.dst ≠ some d) → (puts a os vs).put (some d) v = puts (a.put (some d) v) os vs
  | [], vs, a, _ => by cases vs <;> rfl
  | o :: os, [], a, _ => rfl
  | o :: os, u :: vs, a, h => by
    show (puts (a.put o.dst u) os vs).put (some d) v = puts ((a.put (some d) v).put o.dst u) os vs
    rw [puts_comm d v os vs _ (fun o' ho' => h o' (List.mem_cons_of_mem _ ho'))]
    cases ho : o.dst with
    | none => rfl
    | some d' =>
      rw [put_ne a d' d u v]
      intro e
      exact h o (List.mem_cons_self ..) (by rw [ho, e])

/-- No two write the same slot. -/
def distinctB : List Oper → Bool
  | [] => true
  | o :: os => (match o.dst with | none => true | some d => os.all fun o' => match o'.dst with | none => true | some d' => !(d == d')) && distinctB os

theorem puts_set (v : Value) : ∀ (os : List Oper) (vs : List Value) (a : Act) (i : Nat) (o : Oper), distinctB os = true → vs.length = os.length → os[i]? = some o → (puts a os vs).put o.dst v = puts a os (vs.set i v)
  | [], _, _, i, o, _, _, h => by simp at h
  | o' :: os, [], a, i, o, _, hl, h => by simp at hl
  | o' :: os, u :: vs, a, 0, o, hd, hl, h => by
    simp at h
    subst h
    show (puts (a.put o'.dst u) os vs).put o'.dst v = puts (a.put o'.dst v) os vs
    unfold distinctB at hd
    rw [Bool.and_eq_true] at hd
    cases ho : o'.dst with
    | none => rfl
    | some d =>
      rw [puts_comm, put_put]
      intro o ho'
      have h1 := hd.1
      rw [ho] at h1
      simp only at h1
      have h2 := List.all_eq_true.1 h1 o ho'
      intro e
      rw [e] at h2
      simp at h2
  | o' :: os, u :: vs, a, i + 1, o, hd, hl, h => by
    show (puts (a.put o'.dst u) os vs).put o.dst v = puts (a.put o'.dst u) os (vs.set i v)
    unfold distinctB at hd
    rw [Bool.and_eq_true] at hd
    exact puts_set v os vs _ i o hd.2 (by simpa using hl) (by simpa using h)

/-- What stands in the slots ahead of all. -/
def vs0 (a : Act) (os : List Oper) : List Value := os.map fun o => match o.dst with | none => undef | some d => a.tmps.getD d undef

theorem put_same (a : Act) (d : Tmp) : a.put (some d) (a.tmps.getD d undef) = a := by
  obtain ⟨t, ds⟩ := a
  simp only [Act.put]
  congr 1
  apply Array.ext_getElem?
  intro i
  rw [Array.getElem?_setIfInBounds]
  split
  · rename_i h
    subst h
    split
    · rename_i hlt
      simp [hlt]
    · rename_i hge
      simp [Array.getElem?_eq_none (Nat.le_of_not_lt hge)]
  · rfl

theorem puts_vs0 : ∀ (os : List Oper) (a : Act), puts a os (vs0 a os) = a
  | [], a => rfl
  | o :: os, a => by
    show puts (a.put o.dst (match o.dst with | none => undef | some d => a.tmps.getD d undef)) os (vs0 a os) = a
    cases ho : o.dst with
    | none => exact puts_vs0 os a
    | some d =>
      simp only
      rw [put_same]
      exact puts_vs0 os a

/-- Does the operation wait for number d? -/
def waits (o : Oper) (d : Nat) : Bool := o.after.any fun e => Region.binds .any e && (e.on == d)

theorem waits_of {o : Oper} {d : Nat} (h : waits o d = true) : ∃ e ∈ o.after, Region.binds .any e = true ∧ e.on = d := by
  unfold waits at h
  simp only [Array.any_eq_true, Bool.and_eq_true, beq_iff_eq] at h
  obtain ⟨i, hi, h1, h2⟩ := h
  exact ⟨_, Array.getElem_mem hi, h1, h2⟩

/-- They wait for those ahead of them alone. -/
def backB : Nat → List Oper → Bool
  | _, [] => true
  | i, o :: os => (o.after.all fun e => !Region.binds .any e || decide (e.on < i)) && backB (i + 1) os

theorem backB_at : ∀ (os : List Oper) (k : Nat), backB k os = true → ∀ i o, os[i]? = some o → ∀ e ∈ o.after, Region.binds .any e = true → e.on < k + i
  | [], _, _, i, o, h => by simp at h
  | o' :: os, k, h, 0, o, ho => by
    simp at ho
    subst ho
    unfold backB at h
    rw [Bool.and_eq_true] at h
    intro e he hb
    have h1 := Array.all_eq_true_iff_forall_mem.1 h.1 e he
    rw [hb] at h1
    simpa using h1
  | o' :: os, k, h, i + 1, o, ho => by
    unfold backB at h
    rw [Bool.and_eq_true] at h
    intro e he hb
    have := backB_at os (k + 1) h.2 i o (by simpa using ho) e he hb
    omega

/-- Those behind the first m wait for each of these, and come in their order. -/
def eachB (l : List Oper) (m : Nat) : Bool :=
  distinctB (l.take m) && decide (m ≤ l.length) && backB 0 (l.take m) && (decide (m = l.length) || (List.range m).all fun i => (List.range (m + 1)).any fun k => decide (i < k) && waits (l.getD k default) i) &&
  ((List.range l.length).all fun j => decide (j ≤ m) || waits (l.getD j default) (j - 1)) &&
  (List.range (l.length - m)).all fun k => Region.ready .any l.toArray ((List.range l.length).map (fun i => decide (i < m + k))).toArray == [m + k]

section
variable (P : Program) (ops : Array Oper) (Q : Exit → Act → World → Prop) (a0 : Act) (lm : List Oper) (E : World → World → Prop) (ψ : Nat → Value → World → Prop) (G : List Value → World → Prop)

/-- What is to be shown of each of the operations. -/
def Each : Nat → List Oper → Prop
  | _, [] => True
  | i, o :: os =>
    (∀ vs w, vs.length = lm.length → G vs w → vs[i]? = (vs0 a0 lm)[i]? → (∀ d v, waits o d = true → vs[d]? = some v → ψ d v w) →
      ∀ K : Act → World → Prop, (∀ v w', E w w' → ψ i v w' → G (vs.set i v) w' → K ((puts a0 lm vs).put o.dst v) w') →
        if Region.wanted o (yielded ops (puts a0 lm vs).tmps) = true then Oper.wp P o (puts a0 lm vs) w K Q else K ((puts a0 lm vs).put o.dst undef) w) ∧
    Each (i + 1) os
end

section
variable {P : Program} {ops : Array Oper} {Q : Exit → Act → World → Prop} {a0 : Act} {lm : List Oper} {E : World → World → Prop} {ψ : Nat → Value → World → Prop} {G : List Value → World → Prop}

theorem Each.at : ∀ (os : List Oper) (k : Nat), Each P ops Q a0 lm E ψ G k os → ∀ i o, os[i]? = some o → ∀ vs w, vs.length = lm.length → G vs w → vs[k + i]? = (vs0 a0 lm)[k + i]? → (∀ d v, waits o d = true → vs[d]? = some v → ψ d v w) →
      ∀ K : Act → World → Prop, (∀ v w', E w w' → ψ (k + i) v w' → G (vs.set (k + i) v) w' → K ((puts a0 lm vs).put o.dst v) w') →
        if Region.wanted o (yielded ops (puts a0 lm vs).tmps) = true then Oper.wp P o (puts a0 lm vs) w K Q else K ((puts a0 lm vs).put o.dst undef) w
  | [], _, _, i, o, h => by simp at h
  | o' :: os, k, h, 0, o, ho => by
    simp at ho
    subst ho
    exact h.1
  | o' :: os, k, h, i + 1, o, ho => by
    have := Each.at os (k + 1) h.2 i o (by simpa using ho)
    rw [show k + (i + 1) = k + 1 + i by omega]
    exact this

theorem Each.cons {i : Nat} {o : Oper} {os : List Oper}
    (h : ∀ vs w, vs.length = lm.length → G vs w → vs[i]? = (vs0 a0 lm)[i]? → (∀ d v, waits o d = true → vs[d]? = some v → ψ d v w) →
      ∀ K : Act → World → Prop, (∀ v w', E w w' → ψ i v w' → G (vs.set i v) w' → K ((puts a0 lm vs).put o.dst v) w') →
        if Region.wanted o (yielded ops (puts a0 lm vs).tmps) = true then Oper.wp P o (puts a0 lm vs) w K Q else K ((puts a0 lm vs).put o.dst undef) w)
    (hr : Each P ops Q a0 lm E ψ G (i + 1) os) : Each P ops Q a0 lm E ψ G i (o :: os) := ⟨h, hr⟩
/-- The same, where the frame is named. -/
theorem Each.start {os : List Oper} (h : ∀ A : List Value → Act, A = puts a0 lm → Each P ops Q a0 lm E ψ G 0 os) : Each P ops Q a0 lm E ψ G 0 os := h _ rfl
theorem Each.consA (A : List Value → Act) (hA : A = puts a0 lm) {i : Nat} {o : Oper} {os : List Oper}
    (h : ∀ vs w, vs.length = lm.length → G vs w → vs[i]? = (vs0 a0 lm)[i]? → (∀ d v, waits o d = true → vs[d]? = some v → ψ d v w) →
      ∀ K : Act → World → Prop, (∀ v w', E w w' → ψ i v w' → G (vs.set i v) w' → K ((A vs).put o.dst v) w') →
        if Region.wanted o (yielded ops (A vs).tmps) = true then Oper.wp P o (A vs) w K Q else K ((A vs).put o.dst undef) w)
    (hr : Each P ops Q a0 lm E ψ G (i + 1) os) : Each P ops Q a0 lm E ψ G i (o :: os) := by
  subst hA
  exact ⟨h, hr⟩
theorem Each.nil {i : Nat} : Each P ops Q a0 lm E ψ G i [] := trivial
theorem len_cons {n : Nat} {vs : List Value} (h : vs.length = n + 1) : ∃ v t, vs = v :: t ∧ t.length = n := by
  cases vs with
  | nil => simp at h
  | cons v t => exact ⟨v, t, rfl, by simpa using h⟩
theorem len_nil {vs : List Value} (h : vs.length = 0) : vs = [] := List.eq_nil_of_length_eq_zero h

/-- So far: of those that have come up, what was said of them. -/
structure Far (a0 : Act) (n : Nat) (listed : Array Bool) (vs : List Value) (w : World) : Prop where
  undone : ∀ i, i < lm.length → listed.getD i true = false → vs[i]? = (vs0 a0 lm)[i]?
  size : listed.size = n
  len : vs.length = lm.length
  g : G vs w
  done : ∀ i v, listed.getD i false = true → vs[i]? = some v → ψ i v w
  later : ∀ i, lm.length ≤ i → i < n → listed.getD i true = false
  closed : ∀ i o, lm[i]? = some o → listed.getD i false = true → ∀ d, waits o d = true → listed.getD d false = true

theorem wpAny_seq (l : List Oper) (m : Nat) : ∀ (k : Nat) (rest : List Oper) (a : Act) (w : World), l.drop (m + (l.length - m - k)) = rest → k ≤ l.length - m → m ≤ l.length →
    (∀ j, j < l.length - m → Region.ready .any l.toArray ((List.range l.length).map (fun i => decide (i < m + j))).toArray = [m + j]) →
    wpList P l.toArray Q rest a w → wpAny P .any l.toArray Q k ((List.range l.length).map (fun i => decide (i < m + (l.length - m - k)))).toArray a w
  | 0, rest, a, w, hr, hk, hm, hready, h => by
    have e : m + (l.length - m - 0) = l.length := by omega
    rw [e] at hr ⊢
    rw [List.drop_length] at hr
    subst hr
    refine ⟨?_, h⟩
    apply List.eq_nil_iff_forall_not_mem.2
    intro j hj
    obtain ⟨h1, o, ho, _⟩ := mem_ready.1 hj
    have hlt : j < l.length := by
      rw [List.getElem?_toArray] at ho
      exact (List.getElem?_eq_some_iff.1 ho).1
    simp [Array.getD, hlt] at h1
  | k + 1, rest, a, w, hr, hk, hm, hready, h => by
    have hj := hready (l.length - m - (k + 1)) (by omega)
    have hlt : m + (l.length - m - (k + 1)) < l.length := by omega
    rw [List.drop_eq_getElem_cons hlt] at hr
    subst hr
    refine ⟨fun h0 => by rw [h0] at hj; simp at hj, ?_⟩
    rw [hj]
    intro i hi
    obtain rfl : i = m + (l.length - m - (k + 1)) := by simpa using hi
    have hset : ((List.range l.length).map (fun i => decide (i < m + (l.length - m - (k + 1))))).toArray.setIfInBounds (m + (l.length - m - (k + 1))) true = ((List.range l.length).map (fun i => decide (i < m + (l.length - m - k)))).toArray := by
      apply Array.ext_getElem?
      intro j
      rw [Array.getElem?_setIfInBounds]
      by_cases hj1 : m + (l.length - m - (k + 1)) = j
      · rw [if_pos hj1, if_pos (by simpa using hlt)]
        subst hj1
        simp [hlt]
        omega
      · rw [if_neg hj1]
        by_cases hj2 : j < l.length
        · simp [hj2]
          omega
        · simp [hj2]
    rw [hset]
    unfold wpOp
    rw [List.getElem?_toArray, List.getElem?_eq_getElem hlt]
    simp only
    unfold wpList at h
    have IH : ∀ a w, wpList P l.toArray Q (l.drop (m + (l.length - m - (k + 1)) + 1)) a w → wpAny P .any l.toArray Q k ((List.range l.length).map (fun i => decide (i < m + (l.length - m - k)))).toArray a w := fun a w h' =>
      wpAny_seq l m k _ a w (by congr 1; omega) (by omega) hm hready h'
    split at h
    · rename_i hw
      rw [if_pos hw]
      rcases h with h | h
      · exact Or.inl (Oper.wp_mono IH h)
      · exact Or.inr h
    · rename_i hw
      rw [if_neg hw]
      exact IH _ _ h

theorem count_upto : ∀ (n m : Nat), m ≤ n → ((List.range n).map (fun i => decide (i < m))).count true = m
  | 0, m, h => by
    obtain rfl : m = 0 := by omega
    rfl
  | n + 1, m, h => by
    rw [List.range_succ, List.map_append, List.count_append]
    by_cases hm : m ≤ n
    · rw [count_upto n m hm]
      have : decide (n < m) = false := by rw [decide_eq_false_iff_not]; omega
      simp [this]
    · obtain rfl : m = n + 1 := by omega
      have e : (List.range n).map (fun i => decide (i < n + 1)) = (List.range n).map (fun i => decide (i < n)) := by
        apply List.map_congr_left
        intro i hi
        have := List.mem_range.1 hi
        simp [this, Nat.lt_succ_of_lt this]
      rw [e, count_upto n n (Nat.le_refl _)]
      simp

theorem least (p : Nat → Bool) : ∀ m, (∀ i, i < m → p i = true) ∨ ∃ i, i < m ∧ p i = false ∧ ∀ j, j < i → p j = true
  | 0 => Or.inl fun i hi => absurd hi (by omega)
  | m + 1 => by
    rcases least p m with h | ⟨i, h1, h2, h3⟩
    · cases hp : p m
      · exact Or.inr ⟨m, by omega, hp, h⟩
      · refine Or.inl fun i hi => ?_
        by_cases e : i = m
        · rw [e]; exact hp
        · exact h i (by omega)
    · exact Or.inr ⟨i, by omega, h2, h3⟩

theorem getD_tf {ls : List Bool} {i : Nat} (h : i < ls.length) : ls.toArray.getD i true = ls.toArray.getD i false := by simp [Array.getD, h]

theorem wpAny_each {m : Nat} (l : List Oper) (hlm : lm = l.take m) (hml : m ≤ l.length) (hd : distinctB lm = true) (hb : backB 0 lm = true)
    (hph : m = l.length ∨ ∀ i, i < m → ∃ k, i < k ∧ k ≤ m ∧ waits (l.getD k default) i = true)
    (hch : ∀ j, m < j → j < l.length → waits (l.getD j default) (j - 1) = true)
    (hready : ∀ j, j < l.length - m → Region.ready .any l.toArray ((List.range l.length).map (fun i => decide (i < m + j))).toArray = [m + j])
    (hψ : ∀ j v w w', E w w' → ψ j v w → ψ j v w')
    (hs : Each P l.toArray Q a0 lm E ψ G 0 lm)
    (he : ∀ vs w, vs.length = m → G vs w → (∀ i v, vs[i]? = some v → ψ i v w) → wpList P l.toArray Q (l.drop m) (puts a0 lm vs) w) :
    ∀ (fuel : Nat) (ls : List Bool) (vs : List Value) (w : World), Far (lm := lm) (ψ := ψ) (G := G) a0 l.length ls.toArray vs w → fuel + ls.count true = l.length →
      wpAny P .any l.toArray Q fuel ls.toArray (puts a0 lm vs) w := by
  have hlen : lm.length = m := by rw [hlm, List.length_take]; omega
  intro fuel
  induction fuel with
  | zero =>
    intro ls vs w hf hc
    have hall : ∀ b ∈ ls, true = b := List.count_eq_length.1 (by have := hf.size; simp at this; omega)
    have hm0 : l.length = m := by
      by_cases h : l.length = m
      · exact h
      · have h1 := hf.later m (by omega) (by omega)
        have h2 : m < ls.length := by have := hf.size; simp at this; omega
        have h3 := hall ls[m] (List.getElem_mem h2)
        simp [Array.getD, h2] at h1
        rw [h1] at h3
        cases h3
    refine ⟨?_, ?_⟩
    · apply List.eq_nil_iff_forall_not_mem.2
      intro j hj
      obtain ⟨h1, o, ho, _⟩ := mem_ready.1 hj
      have hlt : j < l.length := by
        rw [List.getElem?_toArray] at ho
        exact (List.getElem?_eq_some_iff.1 ho).1
      have h2 : j < ls.length := by have := hf.size; simp at this; omega
      have h3 := hall ls[j] (List.getElem_mem h2)
      simp [Array.getD, h2] at h1
      rw [h1] at h3
      cases h3
    · have h := he vs w (by rw [hf.len, hlen]) hf.g (fun i v hv => hf.done i v (by
        have hi : i < vs.length := (List.getElem?_eq_some_iff.1 hv).1
        have h2 : i < ls.length := by have := hf.size; have := hf.len; simp at *; omega
        have h3 := hall ls[i] (List.getElem_mem h2)
        simp [Array.getD, h2, ← h3]) hv)
      rw [← hm0, List.drop_length] at h
      exact h
  | succ fuel ih =>
    intro ls vs w hf hc
    have hsz : ls.length = l.length := by have := hf.size; simpa using this
    rcases least (fun i => ls.toArray.getD i false) m with hall | ⟨i0, hi0, hno, hbef⟩
    · -- all of the first m have come up
      have hls : ls = (List.range l.length).map (fun i => decide (i < m)) := by
        apply List.ext_getElem?
        intro i
        by_cases hi : i < l.length
        · rw [List.getElem?_eq_getElem (by omega), List.getElem?_map, List.getElem?_range hi]
          simp only [Option.map_some, Option.some.injEq]
          by_cases him : i < m
          · have h := hall i him
            simp [Array.getD, show i < ls.length by omega] at h
            rw [h]
            simp [him]
          · have h := hf.later i (by omega) hi
            simp [Array.getD, show i < ls.length by omega] at h
            rw [h]
            simp [him]
        · rw [List.getElem?_eq_none (by omega), List.getElem?_eq_none (by simp; omega)]
      have hcm : ls.count true = m := by rw [hls]; exact count_upto _ _ hml
      have hfu : fuel + 1 = l.length - m := by omega
      have h := wpAny_seq (P := P) (Q := Q) l m (l.length - m) (l.drop m) (puts a0 lm vs) w (by congr 1; omega) (Nat.le_refl _) hml hready
        (he vs w (by rw [hf.len, hlen]) hf.g (fun i v hv => hf.done i v (by
          have hi : i < vs.length := (List.getElem?_eq_some_iff.1 hv).1
          exact hall i (by have := hf.len; omega)) hv))
      rw [show m + (l.length - m - (l.length - m)) = m by omega, ← hls, ← hfu] at h
      exact h
    · have hlt : i0 < lm.length := by omega
      have hget : ∀ j, j < m → l[j]? = lm[j]? := fun j hj => by rw [hlm, List.getElem?_take, if_pos hj]
      refine ⟨fun h0 => ?_, fun i hi => ?_⟩
      · exfalso
        have : i0 ∈ Region.ready .any l.toArray ls.toArray := by
          refine mem_ready.2 ⟨by rw [getD_tf (by omega)]; exact hno, lm[i0], ?_, fun e he hbi => ?_⟩
          · rw [List.getElem?_toArray, hget i0 hi0, List.getElem?_eq_getElem hlt]
          · have := backB_at lm 0 hb i0 lm[i0] (List.getElem?_eq_getElem hlt) e he hbi
            exact hbef e.on (by omega)
        rw [h0] at this
        cases this
      · obtain ⟨h1, o, ho, hw⟩ := mem_ready.1 hi
        rw [List.getElem?_toArray] at ho
        have hil : i < l.length := (List.getElem?_eq_some_iff.1 ho).1
        by_cases him : i < m
        · have ho' : lm[i]? = some o := by rw [← hget i him]; exact ho
          refine wpOp_step (by rw [List.getElem?_toArray]; exact ho) (fun K' hK => ?_)
          refine Each.at lm 0 hs i o ho' vs w hf.len hf.g (by rw [Nat.zero_add]; exact hf.undone i (by omega) (by rw [getD_tf (by omega)] at h1 ⊢; exact h1)) (fun d v hwd hv => ?_) K' (fun v w' hE hp hg => ?_)
          · refine hf.done d v ?_ hv
            obtain ⟨e, he, h2⟩ := waits_of hwd
            rw [← h2.2]
            exact hw e he h2.1
          · rw [Nat.zero_add] at hp hg
            refine hK _ _ ?_
            rw [puts_set v lm vs a0 i o hd hf.len ho', List.setIfInBounds_toArray]
            refine ih (ls.set i true) (vs.set i v) w' ⟨?_, by simpa using hsz, by simpa using hf.len, hg, ?_, ?_, ?_⟩ ?_
            · intro j hjl hj
              by_cases hji : j = i
              · subst hji
                simp [Array.getD, show j < ls.length by omega] at hj
              · rw [List.getElem?_set_ne (fun e => hji e.symm)]
                refine hf.undone j hjl ?_
                simp [Array.getD, show j < ls.length by omega, List.getElem_set_ne (fun e => hji e.symm)] at hj ⊢
                exact hj
            · intro j u hj hu
              by_cases hji : j = i
              · subst hji
                rw [List.getElem?_set_self (by have := hf.len; omega)] at hu
                cases hu
                exact hp
              · rw [List.getElem?_set_ne (fun e => hji e.symm)] at hu
                refine hψ j u w w' hE (hf.done j u ?_ hu)
                by_cases hjl : j < ls.length
                · simp [Array.getD, hjl, List.getElem_set_ne (fun e => hji e.symm)] at hj ⊢
                  exact hj
                · simp [Array.getD, hjl] at hj
            · intro j hj1 hj2
              have h3 := hf.later j hj1 hj2
              have hji : i ≠ j := by omega
              simp [Array.getD, show j < ls.length by omega, List.getElem_set_ne hji] at h3 ⊢
              exact h3
            · intro j oj hoj hj d hwd
              have grow : ∀ k, ls.toArray.getD k false = true → (ls.set i true).toArray.getD k false = true := fun k hk => by
                by_cases hkl : k < ls.length
                · by_cases hki : i = k
                  · subst hki; simp [Array.getD, hkl]
                  · simp [Array.getD, hkl, List.getElem_set_ne hki] at hk ⊢
                    exact hk
                · simp [Array.getD, hkl] at hk
              by_cases hji : j = i
              · subst hji
                rw [ho'] at hoj
                cases hoj
                obtain ⟨e, he, h2⟩ := waits_of hwd
                rw [← h2.2]
                exact grow _ (hw e he h2.1)
              · refine grow _ (hf.closed j oj hoj ?_ d hwd)
                have hjl : j < ls.length := by
                  have := (List.getElem?_eq_some_iff.1 hoj).1
                  omega
                simp [Array.getD, hjl, List.getElem_set_ne (fun e => hji e.symm)] at hj ⊢
                exact hj
            · have hfi : ls[i]'(by omega) = false := by
                simp [Array.getD, show i < ls.length by omega] at h1
                exact h1
              rw [List.count_set (by omega), hfi]
              simp
              omega
        · exfalso
          have hgd : l.getD i default = o := by rw [List.getD_eq_getElem?_getD, ho]; rfl
          by_cases hmi : i = m
          · subst hmi
            rcases hph with hph | hph
            · omega
            · -- downwards from m
              have down : ∀ k d, d < i → i - d ≤ k → ls.toArray.getD d false = true := by
                intro k
                induction k with
                | zero => intro d hd1 hd2; omega
                | succ k ihk =>
                  intro d hd1 hd2
                  obtain ⟨k', h3, h4, h5⟩ := hph d hd1
                  by_cases hk : k' = i
                  · subst hk
                    rw [hgd] at h5
                    obtain ⟨e, he, h6⟩ := waits_of h5
                    rw [← h6.2]
                    exact hw e he h6.1
                  · have hkl : k' < lm.length := by omega
                    have e1 : l.getD k' default = lm[k'] := by
                      rw [List.getD_eq_getElem?_getD, hget k' (by omega), List.getElem?_eq_getElem hkl]
                      rfl
                    rw [e1] at h5
                    exact hf.closed k' lm[k'] (List.getElem?_eq_getElem hkl) (ihk k' (by omega) (by omega)) d h5
              have h := down (i - i0) i0 hi0 (Nat.le_refl _)
              rw [show ls.toArray.getD i0 false = false from hno] at h
              cases h
          · have h2 := hch i (by omega) hil
            rw [hgd] at h2
            obtain ⟨e, he, h3⟩ := waits_of h2
            have h4 := hw e he h3.1
            rw [h3.2] at h4
            have h5 := hf.later (i - 1) (by omega) (by omega)
            rw [getD_tf (by omega)] at h5
            rw [h5] at h4
            cases h4

/-- A region that draws its order: said of each of the first m operations, in whatever world and frame it comes up; those behind come last, in their order. -/
theorem wp_region_each {id : Nat} {l : List Oper} {w0 : World} (m : Nat) (E : World → World → Prop) (ψ : Nat → Value → World → Prop) (G : List Value → World → Prop) (hm : P.follows .mixedOrders = true) (hB : eachB l m = true)
    (hψ : ∀ j v w w', E w w' → ψ j v w → ψ j v w') (hG : G (vs0 a0 (l.take m)) w0.drew)
    (hs : Each P l.toArray Q a0 (l.take m) E ψ G 0 (l.take m))
    (he : ∀ vs w, vs.length = m → G vs w → (∀ i v, vs[i]? = some v → ψ i v w) → wpList P l.toArray Q (l.drop m) (puts a0 (l.take m) vs) w) :
    (Code.region id l.toArray true).wp P Q a0 w0 := by
  unfold eachB at hB
  simp only [Bool.and_eq_true, decide_eq_true_eq, List.all_eq_true, List.mem_range, beq_iff_eq] at hB
  obtain ⟨⟨⟨⟨⟨h1, h2⟩, h3⟩, h4⟩, h6⟩, h5⟩ := hB
  refine wp_region_any hm ?_
  have h := wpAny_each (P := P) (Q := Q) (a0 := a0) (E := E) (ψ := ψ) (G := G) (m := m) l rfl h2 h1 h3 (by
    rw [Bool.or_eq_true, decide_eq_true_eq, List.all_eq_true] at h4
    rcases h4 with h4 | h4
    · exact Or.inl h4
    · refine Or.inr fun i hi => ?_
      have h7 := h4 i (List.mem_range.2 hi)
      obtain ⟨k, hk, h8⟩ := List.any_eq_true.1 h7
      rw [Bool.and_eq_true, decide_eq_true_eq] at h8
      exact ⟨k, h8.1, by have := List.mem_range.1 hk; omega, h8.2⟩) (fun j hj hl => by
    have h7 := h6 j hl
    rw [Bool.or_eq_true, decide_eq_true_eq] at h7
    rcases h7 with h7 | h7
    · omega
    · exact h7) h5 hψ hs he l.length (List.replicate l.length false) (vs0 a0 (l.take m)) w0.drew ⟨fun _ _ _ => rfl, by simp, by simp [vs0], hG, fun i v h => by
      simp [Array.getD] at h, fun i h1 h2 => by simp [Array.getD, h2], fun i o _ h => by simp [Array.getD] at h⟩ (by rw [List.count_replicate]; simp)
  rw [puts_vs0] at h
  have e : Array.replicate l.toArray.size false = (List.replicate l.length false).toArray := by simp
  rw [e]
  exact h

end
end Go.Proofs.Yteifaipbckhoiab
