/- Regions that draw their order, operation by operation, with what has come up so far. -/
import Derived.Test.YtcigbfjmnhogiaaGreatDoorEac
namespace Go.Proofs.YtcigbfjmnhogiaaGreatDoor
open Go.RowKit
set_option linter.unusedVariables false

theorem none_listed (n : Nat) : (fun j => (List.replicate n false).toArray.getD j false) = (fun _ : Nat => false) := by
  funext j
  simp [Array.getD]

section
variable (P : Program) (ops : Array Oper) (Q : Exit → Act → World → Prop) (a0 : Act) (lm : List Oper) (E : World → World → Prop) (ψ : Nat → Value → World → Prop) (G : (Nat → Bool) → List Value → World → Prop)

/-- What is to be shown of each of the operations. -/
def EachL : Nat → List Oper → Prop
  | _, [] => True
  | i, o :: os =>
    (∀ vs w (L : Nat → Bool), vs.length = lm.length → G L vs w → (∀ d v, waits o d = true → vs[d]? = some v → ψ d v w) → L i = false → (∀ (j : Nat) (oj : Oper) (d : Nat), lm[j]? = some oj → L j = true → waits oj d = true → L d = true) → (∀ d, waits o d = true → L d = true) →
      ∀ K : Act → World → Prop, (∀ v w', E w w' → ψ i v w' → G (fun j => j == i || L j) (vs.set i v) w' → K ((puts a0 lm vs).put o.dst v) w') →
        if Region.wanted o (yielded ops (puts a0 lm vs).tmps) = true then Oper.wp P o (puts a0 lm vs) w K Q else K ((puts a0 lm vs).put o.dst undef) w) ∧
    EachL (i + 1) os
end

section
variable {P : Program} {ops : Array Oper} {Q : Exit → Act → World → Prop} {a0 : Act} {lm : List Oper} {E : World → World → Prop} {ψ : Nat → Value → World → Prop} {G : (Nat → Bool) → List Value → World → Prop}

theorem EachL.at : ∀ (os : List Oper) (k : Nat), EachL P ops Q a0 lm E ψ G k os → ∀ i o, os[i]? = some o → ∀ vs w (L : Nat → Bool), vs.length = lm.length → G L vs w → (∀ d v, waits o d = true → vs[d]? = some v → ψ d v w) → L (k + i) = false → (∀ (j : Nat) (oj : Oper) (d : Nat), lm[j]? = some oj → L j = true → waits oj d = true → L d = true) → (∀ d, waits o d = true → L d = true) →
      ∀ K : Act → World → Prop, (∀ v w', E w w' → ψ (k + i) v w' → G (fun j => j == (k + i) || L j) (vs.set (k + i) v) w' → K ((puts a0 lm vs).put o.dst v) w') →
        if Region.wanted o (yielded ops (puts a0 lm vs).tmps) = true then Oper.wp P o (puts a0 lm vs) w K Q else K ((puts a0 lm vs).put o.dst undef) w
  | [], _, _, i, o, h => by simp at h
  | o' :: os, k, h, 0, o, ho => by
    simp at ho
    subst ho
    exact h.1
  | o' :: os, k, h, i + 1, o, ho => by
    have := EachL.at os (k + 1) h.2 i o (by simpa using ho)
    rw [show k + (i + 1) = k + 1 + i by omega]
    exact this

theorem EachL.cons {i : Nat} {o : Oper} {os : List Oper}
    (h : ∀ vs w (L : Nat → Bool), vs.length = lm.length → G L vs w → (∀ d v, waits o d = true → vs[d]? = some v → ψ d v w) → L i = false → (∀ (j : Nat) (oj : Oper) (d : Nat), lm[j]? = some oj → L j = true → waits oj d = true → L d = true) → (∀ d, waits o d = true → L d = true) →
      ∀ K : Act → World → Prop, (∀ v w', E w w' → ψ i v w' → G (fun j => j == i || L j) (vs.set i v) w' → K ((puts a0 lm vs).put o.dst v) w') →
        if Region.wanted o (yielded ops (puts a0 lm vs).tmps) = true then Oper.wp P o (puts a0 lm vs) w K Q else K ((puts a0 lm vs).put o.dst undef) w)
    (hr : EachL P ops Q a0 lm E ψ G (i + 1) os) : EachL P ops Q a0 lm E ψ G i (o :: os) := ⟨h, hr⟩
/-- The same, where the frame is named. -/
theorem EachL.start {os : List Oper} (h : ∀ A : List Value → Act, A = puts a0 lm → EachL P ops Q a0 lm E ψ G 0 os) : EachL P ops Q a0 lm E ψ G 0 os := h _ rfl
theorem EachL.consA (A : List Value → Act) (hA : A = puts a0 lm) {i : Nat} {o : Oper} {os : List Oper}
    (h : ∀ vs w (L : Nat → Bool), vs.length = lm.length → G L vs w → (∀ d v, waits o d = true → vs[d]? = some v → ψ d v w) → L i = false → (∀ (j : Nat) (oj : Oper) (d : Nat), lm[j]? = some oj → L j = true → waits oj d = true → L d = true) → (∀ d, waits o d = true → L d = true) →
      ∀ K : Act → World → Prop, (∀ v w', E w w' → ψ i v w' → G (fun j => j == i || L j) (vs.set i v) w' → K ((A vs).put o.dst v) w') →
        if Region.wanted o (yielded ops (A vs).tmps) = true then Oper.wp P o (A vs) w K Q else K ((A vs).put o.dst undef) w)
    (hr : EachL P ops Q a0 lm E ψ G (i + 1) os) : EachL P ops Q a0 lm E ψ G i (o :: os) := by
  subst hA
  exact ⟨h, hr⟩
theorem EachL.nil {i : Nat} : EachL P ops Q a0 lm E ψ G i [] := trivial

/-- So far: of those that have come up, what was said of them. -/
structure FarL (n : Nat) (listed : Array Bool) (vs : List Value) (w : World) : Prop where
  size : listed.size = n
  len : vs.length = lm.length
  g : G (fun j => listed.getD j false) vs w
  done : ∀ i v, listed.getD i false = true → vs[i]? = some v → ψ i v w
  later : ∀ i, lm.length ≤ i → i < n → listed.getD i true = false
  closed : ∀ i o, lm[i]? = some o → listed.getD i false = true → ∀ d, waits o d = true → listed.getD d false = true

theorem wpAny_eachL {m : Nat} (l : List Oper) (hlm : lm = l.take m) (hml : m ≤ l.length) (hd : distinctB lm = true) (hb : backB 0 lm = true)
    (hph : m = l.length ∨ ∀ i, i < m → ∃ k, i < k ∧ k ≤ m ∧ waits (l.getD k default) i = true)
    (hch : ∀ j, m < j → j < l.length → waits (l.getD j default) (j - 1) = true)
    (hready : ∀ j, j < l.length - m → Region.ready .any l.toArray ((List.range l.length).map (fun i => decide (i < m + j))).toArray = [m + j])
    (hψ : ∀ j v w w', E w w' → ψ j v w → ψ j v w')
    (hs : EachL P l.toArray Q a0 lm E ψ G 0 lm)
    (he : ∀ vs w (L : Nat → Bool), vs.length = m → (∀ j, j < m → L j = true) → G L vs w → (∀ i v, vs[i]? = some v → ψ i v w) → wpList P l.toArray Q (l.drop m) (puts a0 lm vs) w) :
    ∀ (fuel : Nat) (ls : List Bool) (vs : List Value) (w : World), FarL (lm := lm) (ψ := ψ) (G := G) l.length ls.toArray vs w → fuel + ls.count true = l.length →
      wpAny P .any l.toArray Q fuel ls.toArray (puts a0 lm vs) w := by
  have hlen : lm.length = m := by rw [hlm, List.length_take]; omega
  intro fuel
  induction fuel with
  | zero =>
    intro ls vs w hf hc
    have hall : ∀ b ∈ ls, true = b := List.count_eq_length.1 (by have := hf.size; simp at this; omega)
    have hm0 : l.length = m := by
      by_cases h : l.length = m
      · exact h
      · have h1 := hf.later m (by omega) (by omega)
        have h2 : m < ls.length := by have := hf.size; simp at this; omega
        have h3 := hall ls[m] (List.getElem_mem h2)
        simp [Array.getD, h2] at h1
        rw [h1] at h3
        cases h3
    refine ⟨?_, ?_⟩
    · apply List.eq_nil_iff_forall_not_mem.2
      intro j hj
      obtain ⟨h1, o, ho, _⟩ := mem_ready.1 hj
      have hlt : j < l.length := by
        rw [List.getElem?_toArray] at ho
        exact (List.getElem?_eq_some_iff.1 ho).1
      have h2 : j < ls.length := by have := hf.size; simp at this; omega
      have h3 := hall ls[j] (List.getElem_mem h2)
      simp [Array.getD, h2] at h1
      rw [h1] at h3
      cases h3
    · have h := he vs w _ (by rw [hf.len, hlen]) (fun j hj => by
        have h2 : j < ls.length := by have := hf.size; simp at this; omega
        have h3 := hall ls[j] (List.getElem_mem h2)
        simp [Array.getD, h2, ← h3]) hf.g (fun i v hv => hf.done i v (by
        have hi : i < vs.length := (List.getElem?_eq_some_iff.1 hv).1
        have h2 : i < ls.length := by have := hf.size; have := hf.len; simp at *; omega
        have h3 := hall ls[i] (List.getElem_mem h2)
        simp [Array.getD, h2, ← h3]) hv)
      rw [← hm0, List.drop_length] at h
      exact h
  | succ fuel ih =>
    intro ls vs w hf hc
    have hsz : ls.length = l.length := by have := hf.size; simpa using this
    rcases least (fun i => ls.toArray.getD i false) m with hall | ⟨i0, hi0, hno, hbef⟩
    · -- all of the first m have come up
      have hls : ls = (List.range l.length).map (fun i => decide (i < m)) := by
        apply List.ext_getElem?
        intro i
        by_cases hi : i < l.length
        · rw [List.getElem?_eq_getElem (by omega), List.getElem?_map, List.getElem?_range hi]
          simp only [Option.map_some, Option.some.injEq]
          by_cases him : i < m
          · have h := hall i him
            simp [Array.getD, show i < ls.length by omega] at h
            rw [h]
            simp [him]
          · have h := hf.later i (by omega) hi
            simp [Array.getD, show i < ls.length by omega] at h
            rw [h]
            simp [him]
        · rw [List.getElem?_eq_none (by omega), List.getElem?_eq_none (by simp; omega)]
      have hcm : ls.count true = m := by rw [hls]; exact count_upto _ _ hml
      have hfu : fuel + 1 = l.length - m := by omega
      have h := wpAny_seq (P := P) (Q := Q) l m (l.length - m) (l.drop m) (puts a0 lm vs) w (by congr 1; omega) (Nat.le_refl _) hml hready
        (he vs w _ (by rw [hf.len, hlen]) (fun j hj => hall j hj) hf.g (fun i v hv => hf.done i v (by
          have hi : i < vs.length := (List.getElem?_eq_some_iff.1 hv).1
          exact hall i (by have := hf.len; omega)) hv))
      rw [show m + (l.length - m - (l.length - m)) = m by omega, ← hls, ← hfu] at h
      exact h
    · have hlt : i0 < lm.length := by omega
      have hget : ∀ j, j < m → l[j]? = lm[j]? := fun j hj => by rw [hlm, List.getElem?_take, if_pos hj]
      refine ⟨fun h0 => ?_, fun i hi => ?_⟩
      · exfalso
        have : i0 ∈ Region.ready .any l.toArray ls.toArray := by
          refine mem_ready.2 ⟨by rw [getD_tf (by omega)]; exact hno, lm[i0], ?_, fun e he hbi => ?_⟩
          · rw [List.getElem?_toArray, hget i0 hi0, List.getElem?_eq_getElem hlt]
          · have := backB_at lm 0 hb i0 lm[i0] (List.getElem?_eq_getElem hlt) e he hbi
            exact hbef e.on (by omega)
        rw [h0] at this
        cases this
      · obtain ⟨h1, o, ho, hw⟩ := mem_ready.1 hi
        rw [List.getElem?_toArray] at ho
        have hil : i < l.length := (List.getElem?_eq_some_iff.1 ho).1
        by_cases him : i < m
        · have ho' : lm[i]? = some o := by rw [← hget i him]; exact ho
          refine wpOp_step (by rw [List.getElem?_toArray]; exact ho) (fun K' hK => ?_)
          refine EachL.at lm 0 hs i o ho' vs w (fun j => ls.toArray.getD j false) hf.len hf.g (fun d v hwd hv => ?_) (by simp only [Nat.zero_add]; rw [← getD_tf (by omega)]; exact h1) (fun j oj d hoj hj hwd => hf.closed j oj hoj hj d hwd) (fun d hwd => ?_) K' (fun v w' hE hp hg => ?_)
          · refine hf.done d v ?_ hv
            obtain ⟨e, he, h2⟩ := waits_of hwd
            rw [← h2.2]
            exact hw e he h2.1
          · obtain ⟨e, he, h2⟩ := waits_of hwd
            rw [← h2.2]
            exact hw e he h2.1
          · simp only [Nat.zero_add] at hp hg
            have hL : (fun j => j == i || ls.toArray.getD j false) = (fun j => (ls.set i true).toArray.getD j false) := by
              funext j
              by_cases hji : j = i
              · subst hji
                simp [Array.getD, show j < ls.length by omega]
              · have hne : (j == i) = false := beq_eq_false_iff_ne.2 hji
                rw [hne, Bool.false_or]
                by_cases hjl : j < ls.length
                · simp [Array.getD, hjl, List.getElem_set_ne (fun e => hji e.symm)]
                · simp [Array.getD, hjl]
            rw [hL] at hg
            refine hK _ _ ?_
            rw [puts_set v lm vs a0 i o hd hf.len ho', List.setIfInBounds_toArray]
            refine ih (ls.set i true) (vs.set i v) w' ⟨by simpa using hsz, by simpa using hf.len, hg, ?_, ?_, ?_⟩ ?_
            · intro j u hj hu
              by_cases hji : j = i
              · subst hji
                rw [List.getElem?_set_self (by have := hf.len; omega)] at hu
                cases hu
                exact hp
              · rw [List.getElem?_set_ne (fun e => hji e.symm)] at hu
                refine hψ j u w w' hE (hf.done j u ?_ hu)
                by_cases hjl : j < ls.length
                · simp [Array.getD, hjl, List.getElem_set_ne (fun e => hji e.symm)] at hj ⊢
                  exact hj
                · simp [Array.getD, hjl] at hj
            · intro j hj1 hj2
              have h3 := hf.later j hj1 hj2
              have hji : i ≠ j := by omega
              simp [Array.getD, show j < ls.length by omega, List.getElem_set_ne hji] at h3 ⊢
              exact h3
            · intro j oj hoj hj d hwd
              have grow : ∀ k, ls.toArray.getD k false = true → (ls.set i true).toArray.getD k false = true := fun k hk => by
                by_cases hkl : k < ls.length
                · by_cases hki : i = k
                  · subst hki; simp [Array.getD, hkl]
                  · simp [Array.getD, hkl, List.getElem_set_ne hki] at hk ⊢
                    exact hk
                · simp [Array.getD, hkl] at hk
              by_cases hji : j = i
              · subst hji
                rw [ho'] at hoj
                cases hoj
                obtain ⟨e, he, h2⟩ := waits_of hwd
                rw [← h2.2]
                exact grow _ (hw e he h2.1)
              · refine grow _ (hf.closed j oj hoj ?_ d hwd)
                have hjl : j < ls.length := by
                  have := (List.getElem?_eq_some_iff.1 hoj).1
                  omega
                simp [Array.getD, hjl, List.getElem_set_ne (fun e => hji e.symm)] at hj ⊢
                exact hj
            · have hfi : ls[i]'(by omega) = false := by
                simp [Array.getD, show i < ls.length by omega] at h1
                exact h1
              rw [List.count_set (by omega), hfi]
              simp
              omega
        · exfalso
          have hgd : l.getD i default = o := by rw [List.getD_eq_getElem?_getD, ho]; rfl
          by_cases hmi : i = m
          · subst hmi
            rcases hph with hph | hph
            · omega
            · -- downwards from m
              have down : ∀ k d, d < i → i - d ≤ k → ls.toArray.getD d false = true := by
                intro k
                induction k with
                | zero => intro d hd1 hd2; omega
                | succ k ihk =>
                  intro d hd1 hd2
                  obtain ⟨k', h3, h4, h5⟩ := hph d hd1
                  by_cases hk : k' = i
                  · subst hk
                    rw [hgd] at h5
                    obtain ⟨e, he, h6⟩ := waits_of h5
                    rw [← h6.2]
                    exact hw e he h6.1
                  · have hkl : k' < lm.length := by omega
                    have e1 : l.getD k' default = lm[k'] := by
                      rw [List.getD_eq_getElem?_getD, hget k' (by omega), List.getElem?_eq_getElem hkl]
                      rfl
                    rw [e1] at h5
                    exact hf.closed k' lm[k'] (List.getElem?_eq_getElem hkl) (ihk k' (by omega) (by omega)) d h5
              have h := down (i - i0) i0 hi0 (Nat.le_refl _)
              rw [show ls.toArray.getD i0 false = false from hno] at h
              cases h
          · have h2 := hch i (by omega) hil
            rw [hgd] at h2
            obtain ⟨e, he, h3⟩ := waits_of h2
            have h4 := hw e he h3.1
            rw [h3.2] at h4
            have h5 := hf.later (i - 1) (by omega) (by omega)
            rw [getD_tf (by omega)] at h5
            rw [h5] at h4
            cases h4

/-- A region that draws its order: said of each of the first m operations, in whatever world and frame it comes up; those behind come last, in their order. -/
theorem wp_region_eachL {id : Nat} {l : List Oper} {w0 : World} (m : Nat) (E : World → World → Prop) (ψ : Nat → Value → World → Prop) (G : (Nat → Bool) → List Value → World → Prop) (hm : P.follows .mixedOrders = true) (hB : eachB l m = true)
    (hψ : ∀ j v w w', E w w' → ψ j v w → ψ j v w') (hG : G (fun _ => false) (vs0 a0 (l.take m)) w0.drew)
    (hs : EachL P l.toArray Q a0 (l.take m) E ψ G 0 (l.take m))
    (he : ∀ vs w (L : Nat → Bool), vs.length = m → (∀ j, j < m → L j = true) → G L vs w → (∀ i v, vs[i]? = some v → ψ i v w) → wpList P l.toArray Q (l.drop m) (puts a0 (l.take m) vs) w) :
    (Code.region id l.toArray true).wp P Q a0 w0 := by
  unfold eachB at hB
  simp only [Bool.and_eq_true, decide_eq_true_eq, List.all_eq_true, List.mem_range, beq_iff_eq] at hB
  obtain ⟨⟨⟨⟨⟨h1, h2⟩, h3⟩, h4⟩, h6⟩, h5⟩ := hB
  refine wp_region_any hm ?_
  have h := wpAny_eachL (P := P) (Q := Q) (a0 := a0) (E := E) (ψ := ψ) (G := G) (m := m) l rfl h2 h1 h3 (by
    rw [Bool.or_eq_true, decide_eq_true_eq, List.all_eq_true] at h4
    rcases h4 with h4 | h4
    · exact Or.inl h4
    · refine Or.inr fun i hi => ?_
      have h7 := h4 i (List.mem_range.2 hi)
      obtain ⟨k, hk, h8⟩ := List.any_eq_true.1 h7
      rw [Bool.and_eq_true, decide_eq_true_eq] at h8
      exact ⟨k, h8.1, by have := List.mem_range.1 hk; omega, h8.2⟩) (fun j hj hl => by
    have h7 := h6 j hl
    rw [Bool.or_eq_true, decide_eq_true_eq] at h7
    rcases h7 with h7 | h7
    · omega
    · exact h7) h5 hψ hs he l.length (List.replicate l.length false) (vs0 a0 (l.take m)) w0.drew ⟨by simp, by simp [vs0], (by rw [none_listed]; exact hG), fun i v h => by
      simp [Array.getD] at h, fun i h1 h2 => by simp [Array.getD, h2], fun i o _ h => by simp [Array.getD] at h⟩ (by rw [List.count_replicate]; simp)
  rw [puts_vs0] at h
  have e : Array.replicate l.toArray.size false = (List.replicate l.length false).toArray := by simp
  rw [e]
  exact h

end
end Go.Proofs.YtcigbfjmnhogiaaGreatDoor
