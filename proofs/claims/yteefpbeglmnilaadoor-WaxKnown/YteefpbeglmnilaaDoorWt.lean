/- A MAC that was kept; a row that is copied beside it. -/
import Derived.Test.YteefpbeglmnilaaDoorAz
import Derived.Deep.MidRow
namespace Go.Proofs.YteefpbeglmnilaaDoor
open Go.RowKit
set_option linter.unusedVariables false

theorem min500 (len m : Nat) (hm : (len ≤ 500 ∧ m = len) ∨ (500 < len ∧ m = 500)) (w : World) : (Builtin.min_ #[3, 3] 3 #[.int .i64 (len : Int), .int .i64 500]).run Tryd.prog w = .ok (.int .i64 (m : Int)) w := by
  simp only [Builtin.min_, Builtin.min2, List.foldlM_cons, List.foldlM_nil, pure_bind, Sem.run_pure, Result.ok.injEq, Value.int.injEq, true_and, and_true]
  split <;> omega

/-- A MAC that was kept in a row of its own; the worlds behind W. -/
structure Was (W : World) (b : Nat) (d : List Int) (wr : World) : Prop where
  bel : Below W.heap.size W wr
  row : Row wr b 24 (bs d)
theorem Was.step {W wr w' : World} {b : Nat} {d : List Int} (h : Was W b d wr) (k : Below wr.heap.size wr w') : Was W b d w' := ⟨below_below h.bel k, h.row.keep k h.row.lt⟩
theorem Was.drew {W wr : World} {b : Nat} {d : List Int} (h : Was W b d wr) : Was W b d wr.drew := ⟨h.bel.drew, h.row.drew⟩
theorem Was.alloc {W wr : World} {b : Nat} {d : List Int} (h : Was W b d wr) (o : Obj) : Was W b d (wr.alloc o) := h.step ((Below.refl _ _).alloc (Nat.le_refl _) _)
theorem Was.range {W wr : World} {b : Nat} {d : List Int} (h : Was W b d wr) : wr.rangeAt b 0 (bs d) := fun j v hj => by rw [Nat.zero_add]; exact h.row.get hj
theorem Was.both {W wr : World} {b : Nat} {d : List Int} (h : Was W b d wr) : wr.rangeAt b 0 (bs d) ∧ Was W b d wr := ⟨h.range, h⟩
theorem Sl.drew {w : World} {v : Value} {m : List Int} (h : Sl w v m) : Sl w.drew v m := h.keep (Below.refl _ _).drew
theorem Th.drew {w : World} {v : Value} {ms : List (List Int)} (h : Th w v ms) : Th w.drew v ms := h.keep (Below.refl _ _).drew
theorem Sl.alloc {w : World} {v : Value} {m : List Int} (h : Sl w v m) (o : Obj) : Sl (w.alloc o) v m := h.keep ((Below.refl _ _).alloc (Nat.le_refl _) _)

theorem Was.kp {W wr w' : World} {b : Nat} {d : List Int} {S : Nat → Prop} (h : Was W b d wr) (k : Kp S wr w') (h1 : ¬ S b) (h2 : ∀ g, g < W.heap.size → ¬ S g) : Was W b d w' :=
  ⟨h.bel.trans (k.below W.heap.size h.bel.size h2), k.at h.row h1⟩
theorem Was.new {W wr : World} {b : Nat} {d : List Int} (h : Was W b d wr) : b < wr.heap.size := h.row.lt

/-- A row of the call's own beside it. -/
structure Cs (W : World) (b : Nat) (d la : List Int) (v : Value) (wr : World) : Prop where
  was : Was W b d wr
  own : wr.ownsRow W.heap.size 5 1 v la.length (bs la)
theorem Cs.alloc {W wr : World} {b : Nat} {d la : List Int} {v : Value} (h : Cs W b d la v wr) (o : Obj) : Cs W b d la v (wr.alloc o) :=
  ⟨h.was.alloc o, ((Kp.refl (fun _ => False) wr).alloc o).row h.own (fun _ _ h => h)⟩
theorem cs_copy {W wr : World} {b : Nat} {d la : List Int} {v : Value} (h : Was W b d wr) (hv : Sl W v la) (hl : la.length ≤ 140737488355328) :
    Calls Tryd.prog 8 #[v] wr fun e w' => ∃ x c, e = .returned (.slice x la.length c) ∧ Cs W b d la (.slice x la.length c) w' ∧ Was W b d w' ∧ ∀ g t vs, Row wr g t vs → Row w' g t vs := by
  refine (copy_ok (hv.keep h.bel) hl).mono ?_
  rintro e w' ⟨x, c, rfl, ho, hk⟩
  exact ⟨x, c, rfl, ⟨h.step hk, own_lower ho h.bel.size⟩, h.step hk, fun g t vs hr => hr.keep hk hr.lt⟩
theorem own_ne {w : World} {B g n : Nat} {t : TypeId} {v : Value} {xs vs : List Value} (o : w.ownsRow B 5 1 v n xs) (h : Row w g t vs) (ht : t ≠ 5) : ¬ some g = v.ownBlock := fun e => by
  obtain ⟨_, c, h1⟩ := row_at o e.symm
  have h2 : w.heap[g]? = some (.cells vs.toArray t (0, 0)) := h
  rw [h2] at h1
  cases h1
  exact ht rfl
theorem cs_zeros {W wr : World} {b : Nat} {d la : List Int} {v : Value} (h : Cs W b d la v wr) (z : Nat) (hz : la.length + z ≤ 1000) :
    ∃ x c w', (Builtin.append_ #[22, 3] 22 #[v, .int .i64 (z : Int)]).run Tryd.prog wr = .ok (.slice x (la.length + z) c) w' ∧ Sl w' (.slice x (la.length + z) c) (la ++ List.replicate z 0) ∧ Was W b d w' ∧ ∀ g vs, Row wr g 22 vs → Row w' g 22 vs := by
  obtain ⟨x, c, w', hr, hs, hk⟩ := append_zeros h.own z h.was.bel.size hz
  refine ⟨x, c, w', hr, hs, h.was.kp hk (own_ne h.own h.was.row (by decide)) (fun g hg e => ?_), fun g vs hrow => hk.at hrow (own_ne h.own hrow (by decide))⟩
  have := (row_at h.own e.symm).1
  omega
theorem th_kept {W w : World} {g n cap : Nat} {ba : Option Addr} {lb : List Int} (h : Row w g 22 [.slice ba n cap]) (hb : Sl W (.slice ba n cap) lb) (k : Below W.heap.size W w) : Th w (.slice (some ⟨g, 0, none⟩) 1 1) [lb] :=
  Th.row (us := [.slice ba n cap]) (ms := [lb]) h rfl (by simp) (fun i hi => by
    match i, hi with
    | 0, _ => exact hb.keep k) 1 (Nat.le_refl _)

/-- The front of a row that came in. -/
theorem isRow_sl {W : World} {a : Option Addr} {len cap : Nat} {zs : List Int} (h : IsRow .u8 W a len cap zs) (m : Nat) (hm : m ≤ len) : Sl W (.slice a m cap) (zs.take m) ∧ (zs.take m).length = m ∧ Byt (zs.take m) := by
  have hcap := h.cap
  have hl : (zs.take m).length = m := by rw [List.length_take]; omega
  refine ⟨?_, hl, h.byt.take m⟩
  by_cases h0 : m = 0
  · subst h0
    exact Or.inl ⟨rfl, _, _, rfl⟩
  · rcases h.at_ with h1 | ⟨g, off, rfl, hg, hc⟩
    · omega
    · refine Or.inr ⟨g, off, cap, by rw [hl], by omega, by omega, by omega, hg, fun i hi => ?_⟩
      rw [hl] at hi
      rw [hc i (by omega), List.getD_eq_getElem?_getD, List.getD_eq_getElem?_getD, List.getElem?_take_of_lt hi]
theorem cut500 (len : Nat) : ∃ m, m ≤ len ∧ ((len ≤ 500 ∧ m = len) ∨ (500 < len ∧ m = 500)) := by
  by_cases h : len ≤ 500
  · exact ⟨len, Nat.le_refl _, Or.inl ⟨h, rfl⟩⟩
  · exact ⟨500, by omega, Or.inr ⟨by omega, rfl⟩⟩
theorem int_bounds {k : Int} (h : (Lit.int .i64 k).wf = true) : -9223372036854775808 ≤ k ∧ k ≤ 9223372036854775807 := by
  have h1 := bounds_i64 h
  omega
end Go.Proofs.YteefpbeglmnilaaDoor
