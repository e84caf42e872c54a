/- An append whose run is known, as a step of a region that draws its order. -/
import Derived.Test.YtdhgdgcblgdefaaX8
import Derived.Test.YtdhgdgcblgdefaaLt
import Derived.Deep.RegionHeld3
namespace Go.Proofs.Ytdhgdgcblgdefaa
open Go.RowKit

theorem step_append_run {P : Program} {ops : Array Oper} {o : Oper} {a : Act} {w : World} {K : Act → World → Prop} {Q : Exit → Act → World → Prop} {E : Prop}
    (hg : o.guard = none) (s x : Operand) (t : TypeId) (hop : o.op = Op.call { callee := Callee.builtin Builtin.append, args := #[s, x], argTypes := #[t, t] })
    (vs vx : Value) (hs : a.eval s = vs) (hx : a.eval x = vx) (v' : Value) (w' : World) (hrun : (Builtin.append_ #[t, t] o.type #[vs, vx]).run P w = .ok v' w')
    (hK : K (a.put o.dst v') w') : if Region.wanted o (yielded ops a.tmps) = true then Oper.wp P o a w K Q else E := by
  have hw : Region.wanted o (yielded ops a.tmps) = true := by simp [Region.wanted, hg]
  rw [if_pos hw]
  unfold Oper.wp
  simp [execOp, hop, resolve, invoke, builtin, hs, hx, hrun, Result.andThen]
  exact hK

/-- The bytes d lie in block g, whose cells may be written. -/
def Rb (g N cap : Nat) (d : List Int) (w : World) : Prop := ∃ f, w.rowIs g 5 cap f ∧ N ≤ cap ∧ d.length = N ∧ ∀ i, i < N → f i = .int .u8 (d.getD i 0)

theorem Rb.bx {g N cap : Nat} {d : List Int} {w : World} (h : Rb g N cap d w) (hd : Byt d) (hN : N ≤ 140737488355328) : Bx w (.slice (some ⟨g, 0, none⟩) N cap) d := by
  obtain ⟨f, hr, hc, hl, hf⟩ := h
  refine Or.inl ⟨hd, by omega, Or.inr ⟨g, 0, cap, by rw [hl], by omega, trivial, hr.lt, fun i hi => ?_⟩⟩
  rw [Nat.zero_add, hr.cell (by omega), hf i (by omega)]

/-- Its beginning. -/
theorem Rb.front {g N cap : Nat} {d : List Int} {w : World} (h : Rb g N cap d w) (hd : Byt d) (hN : N ≤ 140737488355328) (m : Nat) (hm : m ≤ N) : Bx w (.slice (some ⟨g, 0, none⟩) m cap) (d.take m) := by
  obtain ⟨f, hr, hc, hl, hf⟩ := h
  have hlen : (d.take m).length = m := by rw [List.length_take]; omega
  refine Or.inl ⟨hd.take m, by omega, Or.inr ⟨g, 0, cap, by rw [hlen], by omega, trivial, hr.lt, fun i hi => ?_⟩⟩
  rw [hlen] at hi
  rw [Nat.zero_add, hr.cell (by omega), hf i (by omega), List.getD_eq_getElem?_getD, List.getD_eq_getElem?_getD, List.getElem?_take_of_lt hi]

/-- Its end. -/
theorem Rb.back {g N cap : Nat} {d : List Int} {w : World} (h : Rb g N cap d w) (hd : Byt d) (hN : N ≤ 140737488355328) (m k : Nat) (hm : m + k = N) : Bx w (.slice (some ⟨g, m, none⟩) k (cap - m)) (d.drop m) := by
  obtain ⟨f, hr, hc, hl, hf⟩ := h
  have hlen : (d.drop m).length = k := by rw [List.length_drop]; omega
  refine Or.inl ⟨hd.drop m, by omega, Or.inr ⟨g, m, cap - m, by rw [hlen], by omega, trivial, hr.lt, fun i hi => ?_⟩⟩
  rw [hlen] at hi
  rw [hr.cell (by omega), hf _ (by omega), List.getD_eq_getElem?_getD, List.getD_eq_getElem?_getD, List.getElem?_drop]

theorem Rb.set {g N cap : Nat} {d : List Int} {w : World} (h : Rb g N cap d w) (q : Nat) (v : Int) (hq : q < N) : Rb g N cap (d.set q v) (w.setCell ⟨g, q, none⟩ (.int .u8 v)) := by
  obtain ⟨f, hr, hc, hl, hf⟩ := h
  refine ⟨_, hr.set q _, hc, by rw [List.length_set]; exact hl, fun i hi => ?_⟩
  by_cases e : i = q
  · subst e
    simp [List.getD_eq_getElem?_getD, List.getElem?_set_self (show i < d.length by omega)]
  · rw [if_neg e, hf i hi, List.getD_eq_getElem?_getD, List.getD_eq_getElem?_getD, List.getElem?_set_ne (fun h => e h.symm)]

theorem Rb.drew {g N cap : Nat} {d : List Int} {w : World} (h : Rb g N cap d w) : Rb g N cap d w.drew := h

theorem Rb.keep {g N cap : Nat} {d : List Int} {w w' : World} (h : Rb g N cap d w) (k : Below w.heap.size w w') : Rb g N cap d w' := by
  obtain ⟨f, hr, hc, hl, hf⟩ := h
  exact ⟨f, hr.of_block (k.block g hr.lt), hc, hl, hf⟩

theorem append_row {B : Nat} {w : World} {v x : Value} {l m : List Int} (h : Ow B w v l) (hx : Bx w x m) (hm : Byt m) (hB : B ≤ w.heap.size) (N : Nat) (hN : l.length + m.length = N) (h0 : 0 < N) (hb : N ≤ 140737488355328) :
    ∃ g c w', (Builtin.append_ #[23, 23] 23 #[v, x]).run Try.prog w = .ok (.slice (some ⟨g, 0, none⟩) N c) w' ∧ Rb g N c (l ++ m) w' ∧ B ≤ g ∧ Below B w w' := by
  obtain ⟨v', w', hr, ho, hbel⟩ := append_ow h hx hm hB (by omega) 23
  rcases ho.2.2.2 with ⟨_, hn⟩ | ⟨g, cap, cur, rfl, hg, hh, hcap, _, hsz, htake⟩
  · rw [List.length_append] at hn; omega
  · have hl : (l ++ m).length = N := by rw [List.length_append]; exact hN
    rw [hl] at hr hcap htake
    refine ⟨g, cap, w', hr, ⟨fun i => (cur[i]?).getD (.int .u8 0), ⟨cur, hh, by omega, fun i hi => ?_⟩, hcap, hl, fun i hi => ?_⟩, hg, hbel⟩
    · have hs : i < cur.size := by omega
      show cur[i]? = some ((cur[i]?).getD (.int .u8 0))
      rw [Array.getElem?_eq_getElem hs]
      rfl
    · have e1 : (cur.toList.take (N * 1))[i]? = (List.map (Value.int .u8) (l ++ m))[i]? := by rw [htake]
      have hs : i < (l ++ m).length := by omega
      rw [List.getElem?_take_of_lt (by omega), Array.getElem?_toList, List.getElem?_map, List.getElem?_eq_getElem hs] at e1
      show (cur[i]?).getD (.int .u8 0) = _
      rw [e1, List.getD_eq_getElem?_getD, List.getElem?_eq_getElem hs]
      rfl

end Go.Proofs.Ytdhgdgcblgdefaa
