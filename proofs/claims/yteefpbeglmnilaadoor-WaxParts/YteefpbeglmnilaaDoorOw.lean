/- Rows of bytes that a call has made itself, beside knots. -/
import Derived.Test.YteefpbeglmnilaaDoorMx
import Derived.Maps.AppendAt
namespace Go.Proofs.YteefpbeglmnilaaDoor
open Go.RowKit
set_option linter.unusedVariables false

theorem Kp.ofGrown {W W' : World} {row : Option Nat} (hg : W.grownBy W' row) : Kp (fun b => some b = row) W W' := ⟨hg.os, hg.tape, hg.output, hg.size, fun k hk hs => hg.block k hk hs⟩

theorem Kp.at {S : Nat → Prop} {W W' : World} {B : Nat} {o : Obj} (k : Kp S W W') (h : W.heap[B]? = some o) (hs : ¬ S B) : W'.heap[B]? = some o := (k.block B (Array.getElem?_eq_some_iff.1 h).1 hs).trans h

theorem Kp.row {S : Nat → Prop} {W W' : World} {B : Nat} {e : TypeId} {v : Value} {n : Nat} {xs : List Value} (k : Kp S W W') (h : W.ownsRow B e 1 v n xs) (hs : ∀ g, v.ownBlock = some g → ¬ S g) : W'.ownsRow B e 1 v n xs := by
  refine ⟨h.1, ?_⟩
  rcases h.2 with h2 | ⟨g, cap, cur, rfl, h3, h4, h5⟩
  · exact Or.inl h2
  · exact Or.inr ⟨g, cap, cur, rfl, h3, k.at h4 (hs g rfl), h5⟩

theorem row_at {W : World} {B : Nat} {e : TypeId} {v : Value} {n : Nat} {xs : List Value} (h : W.ownsRow B e 1 v n xs) {g : Nat} (hg : v.ownBlock = some g) : B ≤ g ∧ ∃ cur, W.heap[g]? = some (.cells cur e (0, 0)) := by
  rcases h.2 with ⟨rfl, _⟩ | ⟨g', cap, cur, rfl, h3, h4, _⟩
  · cases hg
  · cases hg; exact ⟨h3, cur, h4⟩

theorem rows_ne {W : World} {B B' : Nat} {e e' : TypeId} {v v' : Value} {n n' : Nat} {xs xs' : List Value} (h : W.ownsRow B e 1 v n xs) (h' : W.ownsRow B' e' 1 v' n' xs') (hne : e ≠ e') {g : Nat} (hg : v.ownBlock = some g) : v'.ownBlock ≠ some g := fun hg' => by
  obtain ⟨_, c, h1⟩ := row_at h hg
  obtain ⟨_, c', h2⟩ := row_at h' hg'
  rw [h1] at h2
  cases h2
  exact hne rfl

theorem row_form {W : World} {B : Nat} {e : TypeId} {v : Value} {n : Nat} {xs : List Value} (h : W.ownsRow B e 1 v n xs) : ∃ x c, v = .slice x n c := by
  rcases h.2 with ⟨rfl, rfl⟩ | ⟨g, cap, cur, rfl, _⟩
  · exact ⟨none, 0, rfl⟩
  · exact ⟨_, _, rfl⟩

theorem info5 : ∃ i, Tryd.prog.info? 5 = some i ∧ i.zero = some (.int .u8 0) ∧ i.size = 1 ∧ i.bytes = 1 := ⟨(Tryd.prog.info? 5).getD default, by kernel_rfl, by kernel_rfl, by kernel_rfl, by kernel_rfl⟩

/-- A row of the call's own as bytes. -/
theorem own_sl {w : World} {B : Nat} {v : Value} {l : List Int} (h : w.ownsRow B 5 1 v l.length (bs l)) (hl : l.length ≤ 140737488355328) : Sl w v l := by
  have hc := fun g => h.cells (g := g)
  rcases h.2 with ⟨rfl, hn⟩ | ⟨g, cap, cur, rfl, hb, hg, hcap, _⟩
  · exact Or.inl ⟨List.length_eq_zero_iff.1 hn, _, _, rfl⟩
  · by_cases h0 : l.length = 0
    · have e : l = [] := List.length_eq_zero_iff.1 h0
      subst e
      exact Or.inl ⟨rfl, _, _, rfl⟩
    · refine Or.inr ⟨g, 0, cap, rfl, by omega, hcap, hl, (Array.getElem?_eq_some_iff.1 hg).1, fun i hi => ?_⟩
      have h := hc g rfl i (.int .u8 (l.getD i 0)) (by
        rw [bs, List.getElem?_map, List.getElem?_eq_getElem hi, List.getD_eq_getElem?_getD, List.getElem?_eq_getElem hi]
        rfl)
      rw [Addr.add_lit] at h
      exact h

theorem append_nil_src {w : World} {v : Value} {B n : Nat} {xs : List Value} (h : w.ownsRow B 5 1 v n xs) (c : Nat) (ty : TypeId) : (Builtin.append_ #[22, 22] ty #[v, .slice none 0 c]).run Tryd.prog w = .ok v w := by
  obtain ⟨i, hi, hz, hs, hby⟩ := info5
  rcases h.2 with ⟨rfl, hn⟩ | ⟨g, cap, cur, rfl, _, hg, hcap, _⟩
  · simp [Builtin.append_, run_underlying und25, sizeOf, typeInfo, hi, Builtin.lenOf, Builtin.firstCells]
  · exact append_none (P := Tryd.prog) und25 hi hs g 0 n cap (Src.ofNil (P := Tryd.prog) w und25 c) hcap

/-- Bytes appended to a row of the call's own; where the new one lies. -/
theorem append_at {w : World} {B : Nat} {v x : Value} {la l : List Int} (h : w.ownsRow B 5 1 v la.length (bs la)) (hx : Sl w x l) (hB : B ≤ w.heap.size) (hb : la.length + l.length ≤ 140737488355328) (ty : TypeId) :
    ∃ v' w', (Builtin.append_ #[22, 22] ty #[v, x]).run Tryd.prog w = .ok v' w' ∧ w'.ownsRow B 5 1 v' (la ++ l).length (bs (la ++ l)) ∧ Kp (fun b => some b = v.ownBlock) w w' ∧ (v'.ownBlock = v.ownBlock ∨ v'.ownBlock = some w.heap.size) := by
  obtain ⟨i, hi, hz, hs, hby⟩ := info5
  have hbs : bs (la ++ l) = bs la ++ bs l := by simp [bs]
  have some_case : ∀ (a : Addr) (c : Nat), x = .slice (some a) l.length c → (∀ j u, (bs l)[j]? = some u → w.cell? (a.add j) = some u) → ∃ v' w', (Builtin.append_ #[22, 22] ty #[v, x]).run Tryd.prog w = .ok v' w' ∧ w'.ownsRow B 5 1 v' (la ++ l).length (bs (la ++ l)) ∧ Kp (fun b => some b = v.ownBlock) w w' ∧ (v'.ownBlock = v.ownBlock ∨ v'.ownBlock = some w.heap.size) := by
    intro a c hx hc
    subst hx
    obtain ⟨v', w', hr, ho, hg, _, hat⟩ := run_append_own_at (P := Tryd.prog) (w := w) B 22 ty 5 i (.int .u8 0) 1 1 und25 hi hz hs hby rfl (by omega) v la.length (bs la) h a l.length c (bs l) (by rw [bs_len]; omega) hc
      (fun u hu => by obtain ⟨_, _, rfl⟩ := List.mem_map.1 hu; rfl) (by unfold maxLen; omega) (by omega) hB
    refine ⟨v', w', hr, ?_, Kp.ofGrown hg, hat⟩
    rw [List.length_append, hbs]
    exact ho
  rcases hx with ⟨rfl, y, cap, rfl⟩ | ⟨g, off, cap, rfl, _, _, _, _, hcell⟩
  · cases y with
    | none =>
      refine ⟨v, w, append_nil_src h cap ty, by rw [List.append_nil]; exact h, Kp.refl _ _, Or.inl rfl⟩
    | some a => exact some_case a cap rfl (fun j u hj => by cases hj)
  · refine some_case ⟨g, off, none⟩ cap rfl (fun j u hj => ?_)
    have hj' : j < l.length := by
      by_cases hh : j < l.length
      · exact hh
      · rw [List.getElem?_eq_none (by rw [bs_len]; omega)] at hj; cases hj
    have := hcell j hj'
    rw [bs, List.getElem?_map, List.getElem?_eq_getElem hj'] at hj
    simp only [Option.map_some, Option.some.injEq] at hj
    rw [List.getD_eq_getElem?_getD, List.getElem?_eq_getElem hj', Option.getD_some] at this
    rw [← hj, Addr.add_lit]
    exact this

/-- Two knots and two rows that grow side by side. -/
structure AS (W : World) (kx ky : Nat) (lx ly la lb : List Int) (va vb : Value) (wr : World) : Prop where
  bel : Below W.heap.size W wr
  nx : W.heap.size ≤ kx
  ny : W.heap.size ≤ ky
  ne : kx ≠ ky
  rx : Row wr kx 70 (kc lx)
  ry : Row wr ky 70 (kc ly)
  oa : wr.ownsRow W.heap.size 5 1 va la.length (bs la)
  ob : wr.ownsRow W.heap.size 5 1 vb lb.length (bs lb)
  ab : ∀ g, va.ownBlock = some g → vb.ownBlock = some g → False
  bx : Byt lx
  by_ : Byt ly

theorem AS.swap {W wr : World} {kx ky : Nat} {lx ly la lb : List Int} {va vb : Value} (h : AS W kx ky lx ly la lb va vb wr) : AS W ky kx ly lx lb la vb va wr :=
  ⟨h.bel, h.ny, h.nx, fun e => h.ne e.symm, h.ry, h.rx, h.ob, h.oa, fun g a b => h.ab g b a, h.by_, h.bx⟩

theorem row_ne {w : World} {k B n : Nat} {vs xs : List Value} {v : Value} (h : Row w k 70 vs) (o : w.ownsRow B 5 1 v n xs) : ∀ g, v.ownBlock = some g → ¬ g = k := fun g hg e => by
  subst e
  obtain ⟨_, c, h1⟩ := row_at o hg
  have h2 : w.heap[g]? = some (.cells vs.toArray 70 (0, 0)) := h
  rw [h2] at h1
  cases h1

theorem AS.add {W wr : World} {kx ky : Nat} {lx ly la lb : List Int} {va vb v : Value} {m : List Int} (h : AS W kx ky lx ly la lb va vb wr) (hv : Ap kx wr v m) (hm : Byt m) (hl : lx.length ≤ 140737488355328) :
    Calls Tryd.prog 21 #[.pointer (some ⟨kx, 0, none⟩), v] wr fun e w' => e = .returned (.tuple #[]) ∧ AS W kx ky (lx ++ m) ly la lb va vb w' := by
  refine (add_ok h.rx hv hl h.bx hm).mono ?_
  rintro e w' ⟨rfl, hr, hk⟩
  exact ⟨rfl, below_kp h.bel hk h.nx h.bel.size, h.nx, h.ny, h.ne, hr, hk.at h.ry (fun e => h.ne e.symm), hk.row h.oa (row_ne h.rx h.oa), hk.row h.ob (row_ne h.rx h.ob), h.ab, h.bx.append hm, h.by_⟩

theorem AS.app {W wr : World} {kx ky : Nat} {lx ly la lb : List Int} {va vb x : Value} {m : List Int} (h : AS W kx ky lx ly la lb va vb wr) (hx : Sl wr x m) (hb : la.length + m.length ≤ 140737488355328) :
    ∃ v' w', (Builtin.append_ #[22, 22] 22 #[va, x]).run Tryd.prog wr = .ok v' w' ∧ AS W kx ky lx ly (la ++ m) lb v' vb w' := by
  obtain ⟨v', w', hr, ho, hk, hat⟩ := append_at h.oa hx h.bel.size hb 22
  refine ⟨v', w', hr, h.bel.trans (hk.below _ h.bel.size (fun i hi e => by have := (h.oa.lt i e.symm).1; omega)), h.nx, h.ny, h.ne, hk.at h.rx (fun e => row_ne h.rx h.oa _ e.symm rfl), hk.at h.ry (fun e => row_ne h.ry h.oa _ e.symm rfl), ho, hk.row h.ob (fun g hg e => h.ab g e.symm hg), fun g h1 h2 => ?_, h.bx, h.by_⟩
  rcases hat with ha | ha
  · exact h.ab g (ha.symm.trans h1) h2
  · rw [ha] at h1
    cases h1
    have := (h.ob.lt _ h2).2
    omega

theorem AS.step {W wr w' : World} {kx ky : Nat} {lx ly la lb : List Int} {va vb : Value} (h : AS W kx ky lx ly la lb va vb wr) (k : Below wr.heap.size wr w') : AS W kx ky lx ly la lb va vb w' :=
  ⟨below_below h.bel k, h.nx, h.ny, h.ne, h.rx.keep k h.rx.lt, h.ry.keep k h.ry.lt, (kpB k (fun _ => False)).row h.oa (fun _ _ h => h), (kpB k (fun _ => False)).row h.ob (fun _ _ h => h), h.ab, h.bx, h.by_⟩

end Go.Proofs.YteefpbeglmnilaaDoor
