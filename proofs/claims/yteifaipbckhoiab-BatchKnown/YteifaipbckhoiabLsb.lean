/- One span cut out of a row; spans turned; what the law of one span less needs. -/
import Derived.Test.YteifaipbckhoiabLsa
namespace Go.Proofs.Yteifaipbckhoiab
open Go.RowKit
set_option linter.unusedVariables false

theorem wf_same' {ps qs : List SpanV} (h : spd ps = spd qs) (hw : ∀ q ∈ qs, WfS q.1) : ∀ p ∈ ps, WfS p.1 := fun p hp => by
  have h1 : p.1 ∈ spd ps := List.mem_map.2 ⟨p, hp, rfl⟩
  rw [h] at h1
  obtain ⟨q, hq, e⟩ := List.mem_map.1 h1
  rw [← e]
  exact hw q hq
theorem Bk.ne {w : World} {a b : Nat} {t t' : TypeId} {x y : Array Value} (h : Bk w a t x) (k : Bk w b t' y) (ht : t ≠ t') : a ≠ b := fun e => by
  subst e
  have h' : w.heap[a]? = some (.cells x t (0, 0)) := h
  have k' : w.heap[a]? = some (.cells y t' (0, 0)) := k
  rw [h'] at k'
  injection k' with k'
  injection k' with _ h2
  exact ht h2
/-- Turned by r. -/
def turnV (xs : List SpanV) (r : Nat) : List SpanV := xs.drop r ++ xs.take r
theorem turnV_spd (xs : List SpanV) (r : Nat) : spd (turnV xs r) = turn (spd xs) r := by
  unfold turnV turn spd
  rw [List.map_append, List.map_drop, List.map_take]
theorem turnV_len (xs : List SpanV) (r : Nat) : (turnV xs r).length = xs.length := by
  unfold turnV
  rw [List.length_append, List.length_drop, List.length_take]
  omega
theorem turnV_mem {xs : List SpanV} {r : Nat} {q : SpanV} (h : q ∈ turnV xs r) : q ∈ xs := by
  unfold turnV at h
  rcases List.mem_append.1 h with h | h
  · exact List.mem_of_mem_drop h
  · exact List.mem_of_mem_take h
theorem turnV_at (xs : List SpanV) (k : Nat) (hk : k < xs.length) (i : Nat) (hi : i < xs.length) : (turnV xs k)[i]? = xs[(i + k) % xs.length]? := by
  unfold turnV
  by_cases h : i < xs.length - k
  · rw [List.getElem?_append_left (by rw [List.length_drop]; exact h), List.getElem?_drop, Nat.mod_eq_of_lt (by omega), Nat.add_comm]
  · rw [List.getElem?_append_right (by rw [List.length_drop]; omega), List.length_drop, List.getElem?_take, if_pos (by omega)]
    have e : (i + k) % xs.length = i + k - xs.length := by
      rw [Nat.mod_eq_sub_mod (by omega), Nat.mod_eq_of_lt (by omega)]
    rw [e]
    congr 1
    omega
/-- One more is written. -/
theorem set_next {a b : List SpanV} {k : Nat} (ha : k < a.length) (hb : b.length = a.length) : (a.take k ++ b.drop k).set k (a[k]'ha) = a.take (k + 1) ++ b.drop (k + 1) := by
  have h1 : (a.take k).length = k := by rw [List.length_take]; omega
  rw [List.set_append, if_neg (by omega), h1, Nat.sub_self, List.drop_eq_getElem_cons (by omega : k < b.length)]
  simp only [List.set_cons_zero]
  rw [List.take_succ_eq_append_getElem ha, List.append_assoc]
  rfl

theorem fl_oneS {B : Nat} {w : World} {qs : List SpanV} (h : ∀ q ∈ qs, OwT B w q.2 q.1.ats) : ∀ u ∈ fl encS qs, u.oneCell' = true := fun u hu => by
  unfold fl at hu
  rw [List.mem_flatMap] at hu
  obtain ⟨q, hq, ha⟩ := hu
  exact oneS q (own_one (h q hq).2) u ha
set_option maxRecDepth 100000 in
/-- append(d[:k], d[k+1:]...). -/
theorem OwB.cut {B g n c k : Nat} {w : World} {qs : List SpanV} (h : OwB B w (.slice (some ⟨g, 0, none⟩) n c) qs) (hn : qs.length = n) (hk : k < n) (hB : B ≤ w.heap.size) {y : Addr} {m z : Nat} (hm : m = n - (k + 1)) (hy : 0 < m → y = ⟨g, (k + 1) * 9, none⟩) (ty : TypeId) :
    ∃ v' w', (Builtin.append_ #[22, 22] ty #[.slice (some ⟨g, 0, none⟩) k c, .slice (some y) m z]).run Try.prog w = .ok v' w' ∧ OwB B w' v' (qs.take k ++ qs.drop (k + 1)) ∧ Kp (fun b => b = g) w w' ∧ Below B w w' := by
  obtain ⟨i, zr, hi, hz, hzs, hs, hby⟩ := infoS9
  subst hn
  have hrow : w.ownsRow B 36 9 (.slice (some ⟨g, 0, none⟩) k c) k (fl encS (qs.take k)) := by
    refine ⟨by rw [fl_len lenS, List.length_take, Nat.min_eq_left (by omega)], ?_⟩
    rcases h.own.2.2 with ⟨h1, _⟩ | ⟨g', cap, cur, hv, hb, hg, hc, hm2, hsz, ht⟩
    · cases h1
    · injection hv with e1 e2 e3
      injection e1 with e1
      injection e1 with e1
      subst e1 e3
      refine Or.inr ⟨g, c, cur, rfl, hb, hg, by omega, hm2, hsz, ?_⟩
      rw [← fl_take lenS qs k (by omega), ← ht, List.take_take, Nat.min_eq_left (Nat.mul_le_mul_right 9 (by omega))]
  have hnews : ∀ j u, (fl encS (qs.drop (k + 1)))[j]? = some u → w.cell? (y.add j) = some u := fun j u hj => by
    have hl : j < (fl encS (qs.drop (k + 1))).length := by
      by_cases hh : j < (fl encS (qs.drop (k + 1))).length
      · exact hh
      · rw [List.getElem?_eq_none (by omega)] at hj
        cases hj
    rw [fl_len lenS, List.length_drop] at hl
    have hpos : 0 < m := by
      rw [hm]
      by_cases h0 : qs.length - (k + 1) = 0
      · rw [h0] at hl
        omega
      · omega
    rw [hy hpos, Addr.add_lit]
    have h1 := h.own.2.cells (g := g) rfl ((k + 1) * 9 + j) u (by
      rw [← fl_drop lenS qs (k + 1) (by omega), List.getElem?_drop] at hj
      exact hj)
    rw [Addr.add_lit, Nat.zero_add] at h1
    exact h1
  obtain ⟨v', w', hr, ho, hg, _, hw⟩ := run_append_own_at (P := Try.prog) w B 22 ty 36 i zr 9 112 Try.underlying22 hi hz hs hby hzs (by omega) (.slice (some ⟨g, 0, none⟩) k c) k (fl encS (qs.take k)) hrow y m z (fl encS (qs.drop (k + 1))) (by rw [fl_len lenS, List.length_drop, hm])
    hnews (fl_oneS (fun q hq => h.ats q (List.mem_of_mem_drop hq))) (by have := h.own.1; simp only [maxLen]; omega) (by have := h.own.1; omega) hB
  have hmem : ∀ q ∈ qs.take k ++ qs.drop (k + 1), q ∈ qs := fun q hq => by
    rcases List.mem_append.1 hq with hq | hq
    · exact List.mem_of_mem_take hq
    · exact List.mem_of_mem_drop hq
  have hlen : (qs.take k ++ qs.drop (k + 1)).length = k + m := by rw [List.length_append, List.length_take, List.length_drop, hm]; omega
  refine ⟨v', w', hr, ⟨⟨by rw [hlen]; have := h.own.1; omega, ?_⟩, fun q hq => (h.ats q (hmem q hq)).grown hg ?_, fun q hq gq hgq e => ?_, h.pw.sublist ?_⟩, ⟨hg.os, hg.tape, hg.output, hg.size, fun j hj hn => hg.block j hj (fun e => hn (Option.some.inj e))⟩, below_grown hg hB (fun j hj => (h.own.2.lt j hj).1)⟩
  · rw [hlen, fl_append]
    exact ho
  · cases hv : q.2.ownBlock with
    | none => exact Or.inl rfl
    | some gq => exact Or.inr fun e => h.sep q (hmem q hq) gq hv e.symm
  · rcases hw with hw | hw
    · exact h.sep q (hmem q hq) gq hgq (hw ▸ e)
    · rw [hw] at e
      have := ((h.ats q (hmem q hq)).2.lt gq hgq).2
      injection e with e
      omega
  · have h1 := List.Sublist.append (List.Sublist.refl (qs.take k)) (List.drop_sublist_drop_left qs (Nat.le_succ k))
    rw [List.take_append_drop] at h1
    exact h1
theorem Cp5.init (w0 : World) (ag sq : Int) (sp : List SpanD) (n : Nat) (v1 v3 v4 v5 : Value) : Cp5 w0 ag sq sp n false false false false v1 v3 v4 v5 w0.drew :=
  ⟨(Below.refl _ _).drew, 0, 0, 0, 0, (fun h => by cases h), (fun h => by cases h), (fun h => by cases h), (fun h => by cases h), (fun h => by cases h), (fun h => by cases h)⟩

end Go.Proofs.Yteifaipbckhoiab
