/- The document's Copy: rows of rules and readers behind rows. -/
import Derived.Test.YtcigbfjmnhogiaaGreatDoorPlc
import Derived.Test.YtcigbfjmnhogiaaGreatDoorOpn
import Derived.Test.YtcigbfjmnhogiaaGreatDoorOp
import Derived.Test.YtcigbfjmnhogiaaGreatDoorFd
import Derived.Lib.AppendZeros
import Derived.Deep.AppendSrc
namespace Go.Proofs.YtcigbfjmnhogiaaGreatDoor
open Go.RowKit
set_option linter.unusedVariables false

theorem fl_rev {α : Type} {enc : α → List Value} {k : Nat} (hk : ∀ x, (enc x).length = k) (hk0 : 0 < k) (xs : List α) (j : Nat) (u : Value) (h : (fl enc xs)[j]? = some u) :
    ∃ (q i : Nat) (hq : q < xs.length), j = q * k + i ∧ (enc xs[q])[i]? = some u := by
  have hj := (List.getElem?_eq_some_iff.1 h).1
  rw [fl_len hk] at hj
  have hq : j / k < xs.length := by rw [Nat.div_lt_iff_lt_mul hk0]; exact hj
  have hi : j % k < k := Nat.mod_lt _ hk0
  have he : j = j / k * k + j % k := by
    have := Nat.div_add_mod j k
    rw [Nat.mul_comm] at this
    exact this.symm
  obtain ⟨u', hu⟩ : ∃ u', (enc xs[j / k])[j % k]? = some u' := ⟨_, List.getElem?_eq_getElem (l := enc xs[j / k]) (by rw [hk]; exact hi)⟩
  have h2 := fl_at hk xs (j / k) hq (j % k) u' hu
  rw [← he, h] at h2
  cases h2
  exact ⟨j / k, j % k, hq, he, hu⟩
theorem src_cells {α : Type} {enc : α → List Value} {k : Nat} (hk : ∀ x, (enc x).length = k) (hk0 : 0 < k) {W : World} {g off cap : Nat} {xs : List α} (h : El enc k W (.slice (some ⟨g, off, none⟩) xs.length cap) xs) :
    ∀ j u, (fl enc xs)[j]? = some u → W.cell? ((⟨g, off, none⟩ : Addr).add j) = some u := by
  intro j u hj
  obtain ⟨q, i, hq, he, hu⟩ := fl_rev hk hk0 xs j u hj
  rcases h with ⟨rfl, _⟩ | ⟨g', off', cap', hv, _, _, _, hc⟩
  · simp at hq
  · cases hv
    have := hc q hq i u hu
    rw [Addr.add_lit, he]
    rw [← Nat.add_assoc]
    exact this

/-- Elements behind a row of its own. -/
theorem appER {B : Nat} {W : World} {v x : Value} {ld xs : List RuleD} (h : OwR B W v ld) (hx : El encR 3 W x xs) (hB : B ≤ W.heap.size) (hn : (ld.length + xs.length) * 32 ≤ 140737488355328) :
    ∃ v' w', (Builtin.append_ #[22, 22] 22 #[v, x]).run Tryz.prog W = .ok v' w' ∧ OwR B w' v' (ld ++ xs) ∧ Below B W w' := by
  obtain ⟨i, hi, hz, hs, hby⟩ := info54'
  obtain ⟨a, cap, hxe⟩ := hx.form
  cases ha : a with
  | none =>
    subst ha
    have hxs : xs = [] := by
      rcases hx with ⟨h0, _⟩ | ⟨g, off, cap', hv, _⟩
      · exact h0
      · rw [hxe] at hv
        cases hv
    subst hxs hxe
    refine ⟨v, W, ?_, by rw [List.append_nil]; exact h, Below.refl _ _⟩
    rcases h.2 with ⟨rfl, h0⟩ | ⟨g, cap', cur, rfl, _, hg, hcap, _⟩
    · simp [Builtin.append_, run_underlying Tryz.underlying22, sizeOf, typeInfo, hi, Builtin.lenOf, Builtin.firstCells]
    · exact run_append_room_src (P := Tryz.prog) W 22 22 22 54 i Tryz.underlying22 hi g 0 ld.length cap' _ 0 [] (Src.ofNil (P := Tryz.prog) W Tryz.underlying22 cap) (by simpa using hcap) (fun j hj => by cases hj) (fun j hj => by cases hj)
  | some a =>
    subst ha hxe
    have hsrc : ∀ j u, (fl encR xs)[j]? = some u → W.cell? (a.add j) = some u := by
      by_cases h0 : xs = []
      · subst h0
        intro j u hj
        simp [fl] at hj
      · rcases hx with ⟨h1, _⟩ | ⟨g, off, cap', hv, h2, h3, h4, h5⟩
        · exact absurd h1 h0
        · cases hv
          exact src_cells lenR (by omega) (Or.inr ⟨g, off, cap, rfl, h2, h3, h4, h5⟩)
    obtain ⟨v', w', hr, ho, hgr, _⟩ := run_append_own (P := Tryz.prog) W B 22 22 54 i _ 3 32 Tryz.underlying22 hi hz hs hby rfl (by omega) v ld.length (fl encR ld) h a xs.length cap (fl encR xs) (fl_len lenR xs)
      hsrc (fl_one' oneR xs) (by unfold maxLen; omega) hn hB
    refine ⟨v', w', hr, ?_, below_grown hgr hB (fun k hk => (own_lt h k hk).1)⟩
    unfold OwR
    rw [List.length_append, fl_append]
    exact ho
theorem OwR.nil (B : Nat) (W : World) : OwR B W (.slice none 0 0) [] := ⟨rfl, Or.inl ⟨rfl, rfl⟩⟩
theorem OwR.elN {B : Nat} {w : World} {v : Value} {xs : List RuleD} (h : OwR B w v xs) (hn : xs.length * 32 ≤ 140737488355328) : El encR 3 w v xs := el_of_own lenR h (by omega)

/-- Elements behind a row of its own. -/
theorem appEQ {B : Nat} {W : World} {v x : Value} {ld xs : List ReaderD} (h : OwQ B W v ld) (hx : El encQ 5 W x xs) (hB : B ≤ W.heap.size) (hn : (ld.length + xs.length) * 48 ≤ 140737488355328) :
    ∃ v' w', (Builtin.append_ #[23, 23] 23 #[v, x]).run Tryz.prog W = .ok v' w' ∧ OwQ B w' v' (ld ++ xs) ∧ Below B W w' := by
  obtain ⟨i, hi, hz, hs, hby⟩ := info34'
  obtain ⟨a, cap, hxe⟩ := hx.form
  cases ha : a with
  | none =>
    subst ha
    have hxs : xs = [] := by
      rcases hx with ⟨h0, _⟩ | ⟨g, off, cap', hv, _⟩
      · exact h0
      · rw [hxe] at hv
        cases hv
    subst hxs hxe
    refine ⟨v, W, ?_, by rw [List.append_nil]; exact h, Below.refl _ _⟩
    rcases h.2 with ⟨rfl, h0⟩ | ⟨g, cap', cur, rfl, _, hg, hcap, _⟩
    · simp [Builtin.append_, run_underlying Tryz.underlying23, sizeOf, typeInfo, hi, Builtin.lenOf, Builtin.firstCells]
    · exact run_append_room_src (P := Tryz.prog) W 23 23 23 34 i Tryz.underlying23 hi g 0 ld.length cap' _ 0 [] (Src.ofNil (P := Tryz.prog) W Tryz.underlying23 cap) (by simpa using hcap) (fun j hj => by cases hj) (fun j hj => by cases hj)
  | some a =>
    subst ha hxe
    have hsrc : ∀ j u, (fl encQ xs)[j]? = some u → W.cell? (a.add j) = some u := by
      by_cases h0 : xs = []
      · subst h0
        intro j u hj
        simp [fl] at hj
      · rcases hx with ⟨h1, _⟩ | ⟨g, off, cap', hv, h2, h3, h4, h5⟩
        · exact absurd h1 h0
        · cases hv
          exact src_cells lenQ (by omega) (Or.inr ⟨g, off, cap, rfl, h2, h3, h4, h5⟩)
    obtain ⟨v', w', hr, ho, hgr, _⟩ := run_append_own (P := Tryz.prog) W B 23 23 34 i _ 5 48 Tryz.underlying23 hi hz hs hby rfl (by omega) v ld.length (fl encQ ld) h a xs.length cap (fl encQ xs) (fl_len lenQ xs)
      hsrc (fl_one' oneQ xs) (by unfold maxLen; omega) hn hB
    refine ⟨v', w', hr, ?_, below_grown hgr hB (fun k hk => (own_lt h k hk).1)⟩
    unfold OwQ
    rw [List.length_append, fl_append]
    exact ho
theorem OwQ.nil (B : Nat) (W : World) : OwQ B W (.slice none 0 0) [] := ⟨rfl, Or.inl ⟨rfl, rfl⟩⟩
theorem OwQ.elN {B : Nat} {w : World} {v : Value} {xs : List ReaderD} (h : OwQ B w v xs) (hn : xs.length * 48 ≤ 140737488355328) : El encQ 5 w v xs := el_of_own lenQ h (by omega)

theorem el_setPol {α : Type} {enc : α → List Value} {k : Nat} (hs : ∀ x, ∃ s, (enc x)[0]? = some (.string s)) (hk0 : 0 < k) {W : World} {v : Value} {xs : List α} {rb : Nat} (h : El enc k W v xs) (hb : Bk W rb 25 #[.slice none 0 0, .slice none 0 0]) (u1 u2 : Value) :
    El enc k ((W.setCell ⟨rb, 0, none⟩ u1).setCell ⟨rb, 1, none⟩ u2) v xs := by
  rcases h with ⟨rfl, h⟩ | ⟨g, off, cap, rfl, h2, h3, h4, h5⟩
  · exact Or.inl ⟨rfl, h⟩
  · by_cases h0 : xs = []
    · subst h0
      exact Or.inl ⟨rfl, _, _, rfl⟩
    · have hl : 0 < xs.length := List.length_pos_iff.2 h0
      have hne : g ≠ rb := by
        intro e
        subst e
        obtain ⟨s, hs0⟩ := hs xs[0]
        have := h5 0 hl 0 _ hs0
        rw [hb.cell] at this
        have hm := Array.mem_of_getElem? this
        simp at hm
      refine Or.inr ⟨g, off, cap, rfl, h2, h3, by simpa using h4, fun j hj i u hu => ?_⟩
      have e1 := Below.heap_setCell W ⟨rb, 0, none⟩ u1 g hne
      have e2 := Below.heap_setCell (W.setCell ⟨rb, 0, none⟩ u1) ⟨rb, 1, none⟩ u2 g hne
      rw [World.cell?_of_block (a := ⟨g, off + j * k + i, none⟩) (e2.trans e1)]
      exact h5 j hj i u hu
/-- A new policy of two slices. -/
def IsPol (W : World) (v : Value) (rs : List RuleD) (qs : List ReaderD) : Prop := ∃ a b, v = .agg #[a, b] ∧ El encR 3 W a rs ∧ El encQ 5 W b qs
theorem IsPol.keep {W W' : World} {v : Value} {rs : List RuleD} {qs : List ReaderD} (h : IsPol W v rs qs) (k : Below W.heap.size W W') : IsPol W' v rs qs := by
  obtain ⟨a, b, rfl, h1, h2⟩ := h
  exact ⟨a, b, rfl, h1.keep k, h2.keep k⟩
structure CS (w : World) (bx rb : Nat) (u v : Value) (W : World) : Prop where
  bel : Below w.heap.size w W
  pb : Bk W bx 25 #[u, v]
  rb : Bk W rb 25 #[.slice none 0 0, .slice none 0 0]
theorem CS.call {w W W' : World} {bx rb : Nat} {u v : Value} (h : CS w bx rb u v W) (k : Below W.heap.size W W') : CS w bx rb u v W' := ⟨below_below h.bel k, h.pb.keep k, h.rb.keep k⟩
/-- How Copy ends. -/
def CpEnd (w : World) (rs : List RuleD) (qs : List ReaderD) (e : Ending) (w' : World) : Prop :=
  ∃ x1 n1 k1 x2 n2 k2, e = .returned (.agg #[.slice x1 n1 k1, .slice x2 n2 k2]) ∧ El encR 3 w' (.slice x1 n1 k1) rs ∧ El encQ 5 w' (.slice x2 n2 k2) qs ∧ Below w.heap.size w w'

set_option maxRecDepth 100000 in
set_option maxHeartbeats 4000000 in
theorem copy_ok {w : World} {u v : Value} {rs : List RuleD} {qs : List ReaderD} (hr : El encR 3 w u rs) (hq : El encQ 5 w v qs) (hn : rs.length * 32 ≤ 140737488355328) (hm : qs.length * 48 ≤ 140737488355328) :
    Calls Tryz.prog 9 #[.agg #[u, v]] w fun e w' => CpEnd w rs qs e w' := by
  have AR : Hid (∀ W, Below w.heap.size w W → ∃ v' w', (Builtin.append_ #[22, 22] 22 #[.slice none 0 0, u]).run Tryz.prog W = .ok v' w' ∧ El encR 3 w' v' rs ∧ Below W.heap.size W w') := hd fun W k => by
    obtain ⟨v', w', h1, h2, h3⟩ := appER (OwR.nil W.heap.size W) (hr.keep k) (Nat.le_refl _) (by simpa using hn)
    exact ⟨v', w', h1, by simpa using h2.elN (by simpa using hn), h3⟩
  have AQ : Hid (∀ W, Below w.heap.size w W → ∃ v' w', (Builtin.append_ #[23, 23] 23 #[.slice none 0 0, v]).run Tryz.prog W = .ok v' w' ∧ El encQ 5 w' v' qs ∧ Below W.heap.size W w') := hd fun W k => by
    obtain ⟨v', w', h1, h2, h3⟩ := appEQ (OwQ.nil W.heap.size W) (hq.keep k) (Nat.le_refl _) (by simpa using hm)
    exact ⟨v', w', h1, by simpa using h2.elN (by simpa using hm), h3⟩
  obtain ⟨x0, cr, rfl⟩ := hr.form
  obtain ⟨y0, cq, rfl⟩ := hq.form
  clear hr hq hn hm
  generalize rs.length = n at *
  generalize qs.length = m at *
  go_enter Tryz.func9, Tryz.ntmps9
  go_wp2_with fail
  have a1 := (Bk.new w 25 #[Value.slice x0 n cr, Value.slice y0 m cq]).alloc (Obj.cells #[Value.slice none 0 0, Value.slice none 0 0] 25)
  have a2 := Bk.new (w.alloc (Obj.cells #[Value.slice x0 n cr, Value.slice y0 m cq] 25)) 25 #[Value.slice none 0 0, Value.slice none 0 0]
  have k1 := below2 w (Obj.cells #[Value.slice x0 n cr, Value.slice y0 m cq] 25) (Obj.cells #[Value.slice none 0 0, Value.slice none 0 0] 25)
  rw [World.size_alloc] at a2
  generalize (w.alloc (Obj.cells #[Value.slice x0 n cr, Value.slice y0 m cq] 25)).alloc (Obj.cells #[Value.slice none 0 0, Value.slice none 0 0] 25) = w1 at *
  have HRB : Hid (w.heap.size ≤ w.heap.size + 1) := hd (Nat.le_succ _)
  obtain ⟨rb, hrb⟩ : ∃ rb, w.heap.size + 1 = rb := ⟨_, rfl⟩
  rw [hrb] at a2 HRB ⊢
  obtain ⟨bx, hbx⟩ : ∃ bx, w.heap.size = bx := ⟨_, rfl⟩
  have HBX := hd hbx
  rw [hbx] at a1 ⊢
  have HC := hd (⟨k1, a1, a2⟩ : CS w bx rb (.slice x0 n cr) (.slice y0 m cq) w1)
  clear k1 a1 a2 hrb hbx
  refine wp_region_each 7 (fun W W' => Below W.heap.size W W') (fun i v W => match i with | 0 => v = Value.pointer (some ⟨bx, 0, none⟩) | 1 => v = Value.slice x0 n cr | 2 => El encR 3 W v rs | 3 => v = Value.pointer (some ⟨bx, 1, none⟩) | 4 => v = Value.slice y0 m cq | 5 => El encQ 5 W v qs | 6 => IsPol W v rs qs | _ => True) (fun _ W => CS w bx rb (.slice x0 n cr) (.slice y0 m cq) W) (by kernel_rfl) (by kernel_rfl) (fun j v W W' hE h => by
      match j with
      | 0 => exact h
      | 1 => exact h
      | 2 => exact h.keep hE
      | 3 => exact h
      | 4 => exact h
      | 5 => exact h.keep hE
      | 6 => exact IsPol.keep h hE
      | _ + 7 => trivial) (HC.out.call (Below.refl _ _).drew) ?_ ?_
  · simp only [List.take_succ_cons, List.take_zero]
    refine Each.cons (fun vs W hl => ?_) ?_
    · apply with7 hl
      clear hl vs
      intro v0 v1 v2 v3 v4 v5 v6 hg hd K hK
      clear hd
      rw [if_pos (by kernel_rfl)]
      simp only [puts, Act.put, List.setIfInBounds_toArray, List.set_cons_zero, List.set_cons_succ] at hK ⊢
      go_simp
      exact hK _ _ (Below.refl _ _) rfl hg
    refine Each.cons (fun vs W hl => ?_) ?_
    · apply with7 hl
      clear hl vs
      intro v0 v1 v2 v3 v4 v5 v6 hg hd K hK
      have d0 : v0 = Value.pointer (some ⟨bx, 0, none⟩) := hd 0 v0 (by kernel_rfl) rfl
      subst d0
      clear hd
      rw [if_pos (by kernel_rfl)]
      simp only [puts, Act.put, List.setIfInBounds_toArray, List.set_cons_zero, List.set_cons_succ] at hK ⊢
      have c0 := hg.pb.cell 0
      simp at c0
      go_simp
      exact hK _ _ (Below.refl _ _) rfl hg
    refine Each.cons (fun vs W hl => ?_) ?_
    · apply with7 hl
      clear hl vs
      intro v0 v1 v2 v3 v4 v5 v6 hg hd K hK
      have d1 : v1 = Value.slice x0 n cr := hd 1 v1 (by kernel_rfl) rfl
      subst d1
      clear hd
      rw [if_pos (by kernel_rfl)]
      simp only [puts, Act.put, List.setIfInBounds_toArray, List.set_cons_zero, List.set_cons_succ] at hK ⊢
      obtain ⟨v', w', hrun, he', hk'⟩ := AR.out W hg.bel
      refine Lib.wp_append_run W _ _ 22 22 rfl _ _ rfl rfl v' w' hrun ?_
      exact hK _ _ hk' he' (hg.call hk')
    refine Each.cons (fun vs W hl => ?_) ?_
    · apply with7 hl
      clear hl vs
      intro v0 v1 v2 v3 v4 v5 v6 hg hd K hK
      clear hd
      rw [if_pos (by kernel_rfl)]
      simp only [puts, Act.put, List.setIfInBounds_toArray, List.set_cons_zero, List.set_cons_succ] at hK ⊢
      go_simp
      exact hK _ _ (Below.refl _ _) rfl hg
    refine Each.cons (fun vs W hl => ?_) ?_
    · apply with7 hl
      clear hl vs
      intro v0 v1 v2 v3 v4 v5 v6 hg hd K hK
      have d3 : v3 = Value.pointer (some ⟨bx, 1, none⟩) := hd 3 v3 (by kernel_rfl) rfl
      subst d3
      clear hd
      rw [if_pos (by kernel_rfl)]
      simp only [puts, Act.put, List.setIfInBounds_toArray, List.set_cons_zero, List.set_cons_succ] at hK ⊢
      have c1 := hg.pb.cell 1
      simp at c1
      go_simp
      exact hK _ _ (Below.refl _ _) rfl hg
    refine Each.cons (fun vs W hl => ?_) ?_
    · apply with7 hl
      clear hl vs
      intro v0 v1 v2 v3 v4 v5 v6 hg hd K hK
      have d4 : v4 = Value.slice y0 m cq := hd 4 v4 (by kernel_rfl) rfl
      subst d4
      clear hd
      rw [if_pos (by kernel_rfl)]
      simp only [puts, Act.put, List.setIfInBounds_toArray, List.set_cons_zero, List.set_cons_succ] at hK ⊢
      obtain ⟨v', w', hrun, he', hk'⟩ := AQ.out W hg.bel
      refine Lib.wp_append_run W _ _ 23 23 rfl _ _ rfl rfl v' w' hrun ?_
      exact hK _ _ hk' he' (hg.call hk')
    refine Each.cons (fun vs W hl => ?_) ?_
    · apply with7 hl
      clear hl vs
      intro v0 v1 v2 v3 v4 v5 v6 hg hd K hK
      have d2 : El encR 3 W v2 rs := hd 2 v2 (by kernel_rfl) rfl
      have d5 : El encQ 5 W v5 qs := hd 5 v5 (by kernel_rfl) rfl
      clear hd
      rw [if_pos (by kernel_rfl)]
      simp only [puts, Act.put, List.setIfInBounds_toArray, List.set_cons_zero, List.set_cons_succ] at hK ⊢
      obtain ⟨x1, k1, e1⟩ := d2.form
      obtain ⟨x2, k2, e2⟩ := d5.form
      subst e1 e2
      go_simp
      exact hK _ _ (Below.refl _ _) ⟨_, _, rfl, d2, d5⟩ hg
    exact Each.nil
  · intro vs W hl
    apply with7 hl
    clear hl vs
    intro v0 v1 v2 v3 v4 v5 v6 hg hall
    have d0 : v0 = Value.pointer (some ⟨bx, 0, none⟩) := hall 0 v0 rfl
    subst d0
    have d1 : v1 = Value.slice x0 n cr := hall 1 v1 rfl
    subst d1
    have d2 : El encR 3 W v2 rs := hall 2 v2 rfl
    have d3 : v3 = Value.pointer (some ⟨bx, 1, none⟩) := hall 3 v3 rfl
    subst d3
    have d4 : v4 = Value.slice y0 m cq := hall 4 v4 rfl
    subst d4
    have d5 : El encQ 5 W v5 qs := hall 5 v5 rfl
    have d6 : IsPol W v6 rs qs := hall 6 v6 rfl
    clear hall
    simp only [puts, Act.put, List.setIfInBounds_toArray, List.set_cons_zero, List.set_cons_succ, List.take_succ_cons, List.take_zero, List.drop_succ_cons, List.drop_zero]
    obtain ⟨z1, z2, hz, hz1, hz2⟩ := d6
    subst hz
    obtain ⟨x1, k1, e1⟩ := hz1.form
    obtain ⟨x2, k2, e2⟩ := hz2.form
    subst e1 e2
    have HE1 := hd hz1
    have HE2 := hd hz2
    have HG := hd hg
    have r0 := hg.rb.cell 0
    have r1 := hg.rb.cell 1
    simp at r0 r1
    have f0 := hg.rb.fz 0
    have f1 := hg.rb.fz 1
    clear hg hz1 hz2 d2 d5
    go_wp2_with fail
    refine bodyPost_ret (res_one rfl _ _ rb _ rfl ((HG.out.rb.set 0 _).set 1 _) und25 lenP25) rfl ?_
    have hb := below_setCell (below_setCell (Below.refl rb W) ⟨rb, 0, none⟩ (Value.slice x1 rs.length k1) (Nat.le_refl _)) ⟨rb, 1, none⟩ (Value.slice x2 qs.length k2) (Nat.le_refl _)
    exact ⟨_, _, _, _, _, _, rfl, el_setPol (fun x => ⟨_, rfl⟩) (by omega) HE1.out HG.out.rb _ _, el_setPol (fun x => ⟨_, rfl⟩) (by omega) HE2.out HG.out.rb _ _, HG.out.bel.trans (hb.mono HRB.out)⟩

end Go.Proofs.YtcigbfjmnhogiaaGreatDoor
