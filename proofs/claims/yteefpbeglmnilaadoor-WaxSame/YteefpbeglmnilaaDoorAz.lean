/- Zeros appended to a row of the call's own. -/
import Derived.Test.YteefpbeglmnilaaDoorWw
import Derived.Test.YteefpbeglmnilaaDoorCb
import Derived.Lib.AppendZerosOnto
namespace Go.Proofs.YteefpbeglmnilaaDoor
open Go.RowKit
set_option linter.unusedVariables false

theorem zeroCells_u8 (n : Nat) : Builtin.zeroCells (Value.int .u8 0).cells n = (bs (List.replicate n 0)).toArray := by
  apply Array.ext'
  simp only [Builtin.zeroCells, bs, Value.cells, List.map_replicate, Array.toList_map, Array.toList_range, Nat.mul_one, List.size_toArray, List.length_cons, List.length_nil, Nat.zero_add, Nat.mod_one]
  exact List.eq_replicate_iff.2 ⟨by simp, fun b hb => by obtain ⟨_, _, rfl⟩ := List.mem_map.1 hb; rfl⟩

/-- A row whose first bytes are known. -/
theorem sl_of_block {w : World} {g : Nat} {C : Array Value} {l : List Int} (rest : List Value) (t : TypeId) (hg : w.heap[g]? = some (.cells C t (0, 0))) (hC : C.toList = bs l ++ rest) (cap : Nat) (hc : l.length ≤ cap) (hl : l.length ≤ 140737488355328) : Sl w (.slice (some ⟨g, 0, none⟩) l.length cap) l := by
  by_cases h0 : l.length = 0
  · obtain rfl := List.length_eq_zero_iff.1 h0
    exact Or.inl ⟨rfl, _, _, rfl⟩
  · refine Or.inr ⟨g, 0, cap, rfl, by omega, hc, hl, (Array.getElem?_eq_some_iff.1 hg).1, fun i hi => ?_⟩
    rw [Nat.zero_add, cell_of_row _ g i _ t (0, 0) hg, ← Array.getElem?_toList, hC, List.getElem?_append_left (by rw [bs_len]; exact hi), bs, List.getElem?_map, List.getElem?_eq_getElem hi, List.getD_eq_getElem?_getD, List.getElem?_eq_getElem hi]
    rfl

theorem append_zeros {w : World} {B : Nat} {v : Value} {la : List Int} (h : w.ownsRow B 5 1 v la.length (bs la)) (z : Nat) (hB : B ≤ w.heap.size) (hb : la.length + z ≤ 1000) :
    ∃ x c w', (Builtin.append_ #[22, 3] 22 #[v, .int .i64 (z : Int)]).run Tryd.prog w = .ok (.slice x (la.length + z) c) w' ∧ Sl w' (.slice x (la.length + z) c) (la ++ List.replicate z 0) ∧ Kp (fun b => some b = v.ownBlock) w w' := by
  obtain ⟨i, hi, hz, hs, hby⟩ := info5
  have hL : (la ++ List.replicate z 0).length = la.length + z := by simp
  rcases h with ⟨hl1, ⟨rfl, h0⟩ | ⟨g, cap, cur, rfl, hg, hrow, hcap, hmax, hsz, htake⟩⟩
  · obtain rfl : la = [] := List.length_eq_zero_iff.1 h0
    by_cases hz0 : z = 0
    · subst hz0
      refine ⟨none, 0, w, ?_, Or.inl ⟨rfl, _, _, rfl⟩, Kp.refl _ _⟩
      simp [Builtin.append_, run_underlying und25, run_underlying Tryd.underlying3, sizeOf, typeInfo, hi, asInt, asIntOf, IntKind.wrap_i64]
    · have hr := Lib.run_append_nil_zeros (P := Tryd.prog) w 22 3 22 5 i (.int .u8 0) .i64 .i64 und25 Tryd.underlying3 hi hz z (by omega) (by omega) (by omega) (by rw [hby]; omega)
      refine ⟨_, _, _, by rw [List.length_nil, Nat.zero_add]; exact hr, ?_, ((Kp.refl _ _).drew).alloc _⟩
      rw [zeroCells_u8, zeroCells_u8]
      rw [List.length_nil, Nat.zero_add, List.nil_append]
      have := sl_of_block (w := w.drew.alloc (.cells ((bs (List.replicate z 0)).toArray ++ (bs (List.replicate (grownCap w z 0 5 - z) 0)).toArray) 5)) (g := w.heap.size) (l := List.replicate z 0) (bs (List.replicate (grownCap w z 0 5 - z) 0)) 5 (heap_alloc_new w.drew _) (by simp) (grownCap w z 0 5) (by rw [List.length_replicate]; exact grownCap_ge w z 0 5) (by rw [List.length_replicate]; omega)
      rw [List.length_replicate] at this
      exact this
  · rw [Nat.mul_one] at hsz htake
    have hcur : cur.toList = bs la ++ cur.toList.drop la.length := by rw [← htake, List.take_append_drop]
    by_cases hz0 : z = 0
    · subst hz0
      refine ⟨some ⟨g, 0, none⟩, cap, w, ?_, ?_, Kp.refl _ _⟩
      · simp [Builtin.append_, run_underlying und25, run_underlying Tryd.underlying3, sizeOf, typeInfo, hi, asInt, asIntOf, IntKind.wrap_i64, hcap, storeCells]
      · rw [List.replicate_zero, List.append_nil, Nat.add_zero]
        exact sl_of_block _ 5 hrow hcur cap hcap (by omega)
    · by_cases hfit : la.length + z ≤ cap
      · have hst := run_storeCells_at Tryd.prog g la.length 5 (bs (List.replicate z 0)) 0 cur w hrow (by rw [bs_len, List.length_replicate]; omega) (fun v hv => by obtain ⟨_, _, rfl⟩ := List.mem_map.1 hv; rfl)
        rw [Nat.add_zero] at hst
        refine ⟨some ⟨g, 0, none⟩, cap, w.setRow g (cur.toList.take la.length ++ bs (List.replicate z 0) ++ cur.toList.drop (la.length + (bs (List.replicate z 0)).length)).toArray, ?_, ?_, kp_setRow (Kp.refl _ _) _ _ (fun _ => rfl)⟩
        · have hneg : ¬ ((z : Int) < 0) := by omega
          have hw : IntKind.i64.wrap (z : Int) = z := by rw [IntKind.wrap_i64]; omega
          have h48i : ¬ (281474976710656 < (z : Int) * (i.bytes : Int)) := by rw [hby]; omega
          simp [Builtin.append_, run_underlying und25, run_underlying Tryd.underlying3, sizeOf, typeInfo, zeroValue, hi, hs, hz, asInt, asIntOf, hw, hneg, h48i, hz0, hfit, zeroCells_u8, Addr.add_lit, hst]
        · have := sl_of_block (C := (cur.toList.take la.length ++ bs (List.replicate z 0) ++ cur.toList.drop (la.length + (bs (List.replicate z 0)).length)).toArray) (l := la ++ List.replicate z 0) (cur.toList.drop (la.length + z)) 5 (setRow_heap w g _ _ 5 _ hrow) (by rw [htake]; simp [bs]) cap (by rw [hL]; exact hfit) (by rw [hL]; omega)
          rw [hL] at this
          exact this
      · have hold : (Builtin.firstCells i.size la.length (.slice (some ⟨g, 0, none⟩) la.length cap)).run Tryd.prog w.drew = .ok (bs la).toArray w.drew :=
          run_firstCells_some (P := Tryd.prog) (w := w.drew) i.size la.length ⟨g, 0, none⟩ la.length cap (bs la) (by rw [hs, bs_len, Nat.mul_one]) (fun j v hj => by
            rw [Addr.add_lit, Nat.zero_add]
            show w.cell? _ = _
            have hj' : j < la.length := by
              by_cases hh : j < la.length
              · exact hh
              · rw [List.getElem?_eq_none (by rw [bs_len]; omega)] at hj; cases hj
            rw [cell_of_row _ g j _ 5 (0, 0) hrow, ← Array.getElem?_toList, hcur, List.getElem?_append_left (by rw [bs_len]; exact hj'), hj])
        have hr := Lib.run_append_grow_zeros (P := Tryd.prog) w 22 3 22 5 i (.int .u8 0) .i64 .i64 und25 Tryd.underlying3 hi hz (some ⟨g, 0, none⟩) la.length cap (bs la) hold z (by omega) (by omega) (by omega) (by omega) (by rw [hby]; omega) (by have := nextslicecap_le (need := la.length + z) (old := cap) (by omega); rw [hby]; omega)
        refine ⟨_, _, _, hr, ?_, ((Kp.refl _ _).drew).alloc _⟩
        rw [zeroCells_u8, zeroCells_u8]
        have := sl_of_block (w := w.drew.alloc (.cells ((bs la).toArray ++ (bs (List.replicate z 0)).toArray ++ (bs (List.replicate (grownCap w (la.length + z) cap 5 - (la.length + z)) 0)).toArray) 5)) (g := w.heap.size) (l := la ++ List.replicate z 0) (bs (List.replicate (grownCap w (la.length + z) cap 5 - (la.length + z)) 0)) 5 (heap_alloc_new w.drew _) (by simp [bs]) (grownCap w (la.length + z) cap 5) (by rw [hL]; exact grownCap_ge w _ cap 5) (by rw [hL]; omega)
        rw [hL] at this
        exact this

theorem step_append_run {P : Program} {ops : Array Oper} {o : Oper} {a : Act} {w : World} {K : Act → World → Prop} {Q : Exit → Act → World → Prop} {E : Prop}
    (hg : o.guard = none) (s x : Operand) (t tx : TypeId) (hop : o.op = Op.call { callee := Callee.builtin Builtin.append, args := #[s, x], argTypes := #[t, tx] })
    (vs vx : Value) (hs : a.eval s = vs) (hx : a.eval x = vx) (v' : Value) (w' : World) (hrun : (Builtin.append_ #[t, tx] o.type #[vs, vx]).run P w = .ok v' w')
    (hK : K (a.put o.dst v') w') : if Region.wanted o (yielded ops a.tmps) = true then Oper.wp P o a w K Q else E := by
  have hw : Region.wanted o (yielded ops a.tmps) = true := by simp [Region.wanted, hg]
  rw [if_pos hw]
  exact Lib.wp_append_run w s x t tx hop vs vx hs hx v' w' hrun hK
theorem step_append_ex {P : Program} {ops : Array Oper} {o : Oper} {a : Act} {w : World} {K : Act → World → Prop} {Q : Exit → Act → World → Prop} {E : Prop}
    (hg : o.guard = none) (s x : Operand) (t tx : TypeId) (hop : o.op = Op.call { callee := Callee.builtin Builtin.append, args := #[s, x], argTypes := #[t, tx] })
    (h : ∃ v' w', (Builtin.append_ #[t, tx] o.type #[a.eval s, a.eval x]).run P w = .ok v' w' ∧ K (a.put o.dst v') w') : if Region.wanted o (yielded ops a.tmps) = true then Oper.wp P o a w K Q else E := by
  obtain ⟨v', w', h1, h2⟩ := h
  exact step_append_run hg s x t tx hop _ _ rfl rfl v' w' h1 h2
end Go.Proofs.YteefpbeglmnilaaDoor
