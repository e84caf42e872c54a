/- Bytes copied, held against one another; a knot beside the bytes that it was given. -/
import Derived.Test.YteefpbeglmnilaaDoorOw
namespace Go.Proofs.YteefpbeglmnilaaDoor
open Go.RowKit
set_option linter.unusedVariables false

/-- A row of its own that holds these bytes. -/
def CpEnd (w : World) (m : List Int) (e : Ending) (w' : World) : Prop := ∃ x c, e = .returned (.slice x m.length c) ∧ w'.ownsRow w.heap.size 5 1 (.slice x m.length c) m.length (bs m) ∧ Below w.heap.size w w'

set_option maxHeartbeats 1000000 in
theorem copy_ok {w : World} {v : Value} {m : List Int} (hv : Sl w v m) (hm : m.length ≤ 140737488355328) : Calls Tryd.prog 8 #[v] w fun e w' => CpEnd w m e w' := by
  obtain ⟨v1, w1, hr, ho, hk, _⟩ := append_at (la := []) (B := w.heap.size) (World.ownsRow_nil _ _ _ _) hv (Nat.le_refl _) (by simpa using hm) 22
  obtain ⟨x, c, rfl⟩ := row_form ho
  have HR := hd hr
  have HO := hd ho
  have HK : Hid (Below w.heap.size w w1) := hd (hk.below _ (Nat.le_refl _) (fun i _ e => by cases e))
  clear hr ho hk
  rw [List.nil_append] at HO HR
  go_enter Tryd.func8, Tryd.ntmps8
  go_wp2_with (at_builtin; refine wpList_append_run _ rfl _ _ _ _ rfl _ _ rfl rfl (.slice x m.length c) w1 HR.out ?_; clear HR)
  go_ret
  exact ⟨x, c, rfl, HO.out, HK.out⟩

set_option maxRecDepth 100000 in
set_option maxHeartbeats 1000000 in
theorem eq_ok {w : World} {u v : Value} {m : List Int} (hu : Sl w u m) (hv : Sl w v m) (hm : m.length ≤ 140737488355328) : Calls Tryd.prog 12 #[u, v] w fun e w' => e = .returned (.bool true) ∧ Below w.heap.size w w' := by
  obtain ⟨xu, cu, rfl⟩ : ∃ x c, u = .slice x m.length c := by
    rcases hu with ⟨rfl, x, cap, rfl⟩ | ⟨g, off, cap, rfl, _⟩
    · exact ⟨x, cap, rfl⟩
    · exact ⟨_, _, rfl⟩
  obtain ⟨xv, cv, rfl⟩ : ∃ x c, v = .slice x m.length c := by
    rcases hv with ⟨rfl, x, cap, rfl⟩ | ⟨g, off, cap, rfl, _⟩
    · exact ⟨x, cap, rfl⟩
    · exact ⟨_, _, rfl⟩
  have AU : Hid (0 < m.length → ∃ g off, xu = some ⟨g, off, none⟩ ∧ ∀ i, i < m.length → w.cell? ⟨g, off + i, none⟩ = some (.int .u8 (m.getD i 0))) := hd (fun h0 => by
    rcases hu with ⟨rfl, _⟩ | ⟨g, off, cap, e, _, _, _, _, hc⟩
    · cases h0
    · cases e; exact ⟨g, off, rfl, hc⟩)
  have AV : Hid (0 < m.length → ∃ g off, xv = some ⟨g, off, none⟩ ∧ ∀ i, i < m.length → w.cell? ⟨g, off + i, none⟩ = some (.int .u8 (m.getD i 0))) := hd (fun h0 => by
    rcases hv with ⟨rfl, _⟩ | ⟨g, off, cap, e, _, _, _, _, hc⟩
    · cases h0
    · cases e; exact ⟨g, off, rfl, hc⟩)
  clear hu hv
  generalize m.length = n at *
  go_enter Tryd.func12, Tryd.ntmps12
  go_wp2_with fail
  go_loopw [5] (fun i wr => ∃ k : Nat, k ≤ n ∧ i = .int .i64 (k : Int) ∧ ∃ d, wr = w.drewN d) (fun i _ => n - (intOf i).toNat)
  case atStart => exact ⟨0, Nat.zero_le _, rfl, 0, rfl⟩
  case round =>
    obtain ⟨k, hk, rfl, d, hwr⟩ := hrel
    have HW := hd hwr
    by_cases hlt : k < n
    · have hlt' : (k : Int) < (n : Int) := by omega
      obtain ⟨g1, o1, rfl, hc1⟩ := AU.out (by omega)
      obtain ⟨g2, o2, rfl, hc2⟩ := AV.out (by omega)
      have c1 : wr.cell? ⟨g1, o1 + k, none⟩ = some (.int .u8 (m.getD k 0)) := by rw [hwr]; exact hc1 k hlt
      have c2 : wr.cell? ⟨g2, o2 + k, none⟩ = some (.int .u8 (m.getD k 0)) := by rw [hwr]; exact hc2 k hlt
      clear hwr hc1 hc2
      generalize m.getD k 0 = x at *
      have s1 : IntKind.i64.wrap ((k : Int) + 1) = ((k + 1 : Nat) : Int) := by rw [IntKind.wrap_i64]; omega
      go_wp2_with fail
      go_quiet (fail)
      go_wp2_with fail
      go_roundw
      case rel => exact ⟨k + 1, by omega, by go_num, d + nq, by rw [HW.out, World.drewN_drewN]⟩
      case measure => simp [intOf]; omega
    · have hkn : k = n := by omega
      subst hkn
      clear hwr
      go_wp2_with fail
      go_ret
      exact ⟨rfl, by rw [HW.out]; exact below_drewN (Below.refl _ _) d⟩

/-- A knot, the bytes that it was given, and the row that was handed to it last. -/
structure DS (W : World) (kx : Nat) (lk la z : List Int) (va vb : Value) (wr : World) : Prop where
  bel : Below W.heap.size W wr
  nx : W.heap.size ≤ kx
  rx : Row wr kx 70 (kc lk)
  oa : wr.ownsRow W.heap.size 5 1 va la.length (bs la)
  ob : wr.ownsRow W.heap.size 5 1 vb z.length (bs z)
  ab : ∀ g, va.ownBlock = some g → vb.ownBlock = some g → False
  bx : Byt lk

theorem DS.step {W wr w' : World} {kx : Nat} {lk la z : List Int} {va vb : Value} (h : DS W kx lk la z va vb wr) (k : Below wr.heap.size wr w') : DS W kx lk la z va vb w' :=
  ⟨below_below h.bel k, h.nx, h.rx.keep k h.rx.lt, (kpB k (fun _ => False)).row h.oa (fun _ _ h => h), (kpB k (fun _ => False)).row h.ob (fun _ _ h => h), h.ab, h.bx⟩

theorem own_lower {w : World} {B C : Nat} {v : Value} {n : Nat} {xs : List Value} (h : w.ownsRow B 5 1 v n xs) (hBC : C ≤ B) : w.ownsRow C 5 1 v n xs := by
  refine ⟨h.1, ?_⟩
  rcases h.2 with h2 | ⟨g, cap, cur, rfl, h3, h4⟩
  · exact Or.inl h2
  · exact Or.inr ⟨g, cap, cur, rfl, by omega, h4⟩

theorem DS.copy {W wr w1 : World} {kx : Nat} {lk la m : List Int} {va vb : Value} (h : DS W kx lk la [] va (.slice none 0 0) wr) (ho : w1.ownsRow wr.heap.size 5 1 vb m.length (bs m)) (k : Below wr.heap.size wr w1) : DS W kx lk la m va vb w1 := by
  have h1 := h.step k
  exact ⟨h1.bel, h1.nx, h1.rx, h1.oa, own_lower ho h.bel.size, fun g ha hb => by have := (h.oa.lt g ha).2; have := (row_at ho hb).1; omega, h1.bx⟩

theorem own_ap {w : World} {k B : Nat} {vs : List Value} {v : Value} {z : List Int} (h : Row w k 70 vs) (o : w.ownsRow B 5 1 v z.length (bs z)) (hl : z.length ≤ 140737488355328) : Ap k w v z := by
  have hne := row_ne h o
  rcases own_sl o hl with h0 | ⟨g, off, cap, rfl, h1, h2, h3, h4, h5⟩
  · exact Or.inl h0
  · refine Or.inr ⟨g, off, cap, rfl, h1, h2, h3, ?_, h4, h5⟩
    rcases o.2 with ⟨hv, _⟩ | ⟨g', cap', cur, hv, _⟩
    · cases hv
    · cases hv; exact hne g rfl

theorem DS.add {W wr : World} {kx : Nat} {lk la z : List Int} {va vb : Value} (h : DS W kx lk la z va vb wr) (hz : Byt z) (hl : lk.length ≤ 140737488355328) (hzl : z.length ≤ 140737488355328) :
    Calls Tryd.prog 21 #[.pointer (some ⟨kx, 0, none⟩), vb] wr fun e w' => e = .returned (.tuple #[]) ∧ DS W kx (lk ++ z) la z va vb w' := by
  refine (add_ok h.rx (own_ap h.rx h.ob hzl) hl h.bx hz).mono ?_
  rintro e w' ⟨rfl, hr, hk⟩
  exact ⟨rfl, below_kp h.bel hk h.nx h.bel.size, h.nx, hr, hk.row h.oa (row_ne h.rx h.oa), hk.row h.ob (row_ne h.rx h.ob), h.ab, h.bx.append hz⟩

theorem DS.app {W wr : World} {kx : Nat} {lk la z : List Int} {va vb : Value} (h : DS W kx lk la z va vb wr) (hzl : z.length ≤ 140737488355328) (hb : la.length + z.length ≤ 140737488355328) :
    ∃ v' w', (Builtin.append_ #[22, 22] 22 #[va, vb]).run Tryd.prog wr = .ok v' w' ∧ DS W kx lk (la ++ z) z v' vb w' := by
  obtain ⟨v', w', hr, ho, hk, hat⟩ := append_at h.oa (own_sl h.ob hzl) h.bel.size hb 22
  refine ⟨v', w', hr, h.bel.trans (hk.below _ h.bel.size (fun i hi e => by have := (h.oa.lt i e.symm).1; omega)), h.nx, hk.at h.rx (fun e => row_ne h.rx h.oa _ e.symm rfl), ho, hk.row h.ob (fun g hg e => h.ab g e.symm hg), fun g h1 h2 => ?_, h.bx⟩
  rcases hat with ha | ha
  · exact h.ab g (ha.symm.trans h1) h2
  · rw [ha] at h1
    cases h1
    have := (h.ob.lt _ h2).2
    omega

theorem own_set {w : World} {B g c : Nat} {z : List Int} (h : w.ownsRow B 5 1 (.slice (some ⟨g, 0, none⟩) z.length c) z.length (bs z)) (n : Nat) (y : Int) :
    (w.setCell ⟨g, n, none⟩ (.int .u8 y)).ownsRow B 5 1 (.slice (some ⟨g, 0, none⟩) z.length c) z.length (bs (z.set n y)) := by
  rcases h.2 with ⟨hv, _⟩ | ⟨g', cap, cur, hv, h3, h4, h5, h6, h7, h8⟩
  · cases hv
  · cases hv
    have hr : Row w g 5 cur.toList := h4
    have hr2 := hr.set n (.int .u8 y)
    refine ⟨by simp [bs], Or.inr ⟨g, c, (cur.toList.set n (.int .u8 y)).toArray, rfl, h3, hr2, h5, h6, by simpa using h7, ?_⟩⟩
    show ((cur.toList.set n (.int .u8 y)).take (z.length * 1)) = _
    rw [List.take_set, h8, bs_set]

theorem DS.cell {W wr : World} {kx : Nat} {lk la z : List Int} {va : Value} {x : Option Addr} {n c : Nat} (h : DS W kx lk la z va (.slice x n c) wr) (hn : z.length = n) (k : Nat) (hk : k < n) :
    ∃ g, x = some ⟨g, 0, none⟩ ∧ wr.cell? ⟨g, k, none⟩ = some (.int .u8 (z.getD k 0)) ∧ wr.frozen? ⟨g, k, none⟩ = false ∧ ∀ y, DS W kx lk la (z.set k y) va (.slice x n c) (wr.setCell ⟨g, k, none⟩ (.int .u8 y)) := by
  subst hn
  have ho := h.ob
  rcases ho.2 with ⟨_, h0⟩ | ⟨g, cap, cur, hv, h3, h4, h5, h6, h7, h8⟩
  · omega
  · cases hv
    have hr : Row wr g 5 cur.toList := h4
    have hlen : k < cur.toList.length := by rw [Array.length_toList]; omega
    have hck : cur.toList[k]? = some (.int .u8 (z.getD k 0)) := by
      have e := congrArg (fun l => l[k]?) h8
      simp only [Nat.mul_one] at e
      rw [List.getElem?_take_of_lt hk] at e
      rw [e, bs, List.getElem?_map, List.getElem?_eq_getElem hk, List.getD_eq_getElem?_getD, List.getElem?_eq_getElem hk]
      rfl
    refine ⟨g, rfl, hr.get hck, hr.frozen k, fun y => ?_⟩
    have hgk : ¬ g = kx := row_ne h.rx h.ob g rfl
    have kp : Kp (fun b => b = g) wr (wr.setCell ⟨g, k, none⟩ (.int .u8 y)) := (Kp.refl _ _).setCell _ _ (fun _ => rfl)
    exact ⟨below_setCell h.bel _ _ h3, h.nx, h.rx.other _ _ (fun e => hgk e.symm), kp.row h.oa (fun b hb e => h.ab b hb (by rw [e]; rfl)), by rw [List.length_set]; exact own_set h.ob k y, h.ab, h.bx⟩

theorem DS.drop {W wr : World} {kx : Nat} {lk la z : List Int} {va vb : Value} (h : DS W kx lk la z va vb wr) : DS W kx lk la [] va (.slice none 0 0) wr :=
  ⟨h.bel, h.nx, h.rx, h.oa, World.ownsRow_nil _ _ _ _, fun g _ hb => (by cases hb), h.bx⟩

end Go.Proofs.YteefpbeglmnilaaDoor
