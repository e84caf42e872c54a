/- The document's reader: CopyBytes, New, Fail, Left. -/
import Derived.Test.YtcgimbomandjfaaRg
import Derived.Test.YtcgimbomandjfaaKo
import Derived.Deep.QuietTactic
import Derived.BigQuiet
namespace Go.Proofs.Ytcgimbomandjfaa
open Go.RowKit
set_option linter.unusedVariables false

set_option maxHeartbeats 400000 in
theorem copy_run (v v' : Value) (w w1 : World) (hrun : (Builtin.append_ #[34, 34] 34 #[.slice none 0 0, v]).run Try.prog w = .ok v' w1) :
    Calls Try.prog 41 #[v] w fun e w' => e = .returned v' ∧ w' = w1 := by
  have HR := hd hrun
  clear hrun
  go_enter Try.func41, Try.ntmps41
  go_wp2_with (at_builtin; refine wpList_append_run _ rfl _ _ _ _ rfl _ _ rfl rfl v' w1 HR.out ?_)
  go_ret
  exact ⟨rfl, rfl⟩

/-- An append of nothing onto nil. -/
theorem append_nil_none {P : Program} {w : World} {t tx ty e : TypeId} {i : TypeInfo} (ht : P.underlying t = some (.slice e)) (hi : P.info? e = some i) {x : Value} (hx : Src P i.size tx x 0 [] w) :
    (Builtin.append_ #[t, tx] ty #[.slice none 0 0, x]).run P w = .ok (.slice none 0 0) w := by
  rcases hx.kind with ⟨e', hk⟩ | hk <;> simp [Builtin.append_, run_underlying ht, run_underlying hk, sizeOf, typeInfo, hi, hx.len, hx.cells]

theorem copy_bs {A : Nat → Prop} {w : World} {v : Value} {l : List Int} (h : Bs A w v l) :
    Calls Try.prog 41 #[v] w fun e w' => CloneEnd w l e w' := by
  have hsrc := src_bs (P := Try.prog) (t := 34) Try.underlying34 h
  by_cases h0 : 0 < l.length
  · obtain ⟨v', w1, hrun, r1, r2, r3⟩ := append_grow (ty := 34) (ld := []) (a := none) Try.underlying34 i5 z5 s5 b5 (Bs.ofNil A w) hsrc h.1 h0 (by have := h.2.1; simpa using this)
    refine (copy_run v v' w w1 hrun).mono ?_
    rintro e w' ⟨rfl, rfl⟩
    obtain ⟨a, cap, rfl⟩ := r1.len
    exact ⟨a, cap, rfl, r1, r2, r3⟩
  · have hl : l = [] := List.length_eq_zero_iff.1 (by omega)
    subst hl
    refine (copy_run v _ w _ (append_nil_none (ty := 34) Try.underlying34 i5 (by rw [s5]; exact hsrc))).mono ?_
    rintro e w' ⟨rfl, rfl⟩
    exact ⟨none, 0, rfl, Bs.ofNil _ _, Fr.ofNil _ _ _ _, Below.refl _ _⟩

theorem copy_emp (w : World) (x : Addr) (cap : Nat) :
    Calls Try.prog 41 #[.slice (some x) 0 cap] w fun e w' => CloneEnd w [] e w' := by
  have hsrc : Src Try.prog 1 34 (.slice (some x) 0 cap) 0 [] w :=
    Src.ofSlice _ Try.underlying34 x 0 cap [] (by simp) (fun j u hj => by simp at hj) (fun u hu => by cases hu)
  refine (copy_run _ _ w _ (append_nil_none (ty := 34) Try.underlying34 i5 (by rw [s5]; exact hsrc))).mono ?_
  rintro e w' ⟨rfl, rfl⟩
  exact ⟨none, 0, rfl, Bs.ofNil _ _, Fr.ofNil _ _ _ _, Below.refl _ _⟩

theorem copy_bx {N : Nat} {w : World} {v : Value} {l : List Int} (h : Bx N w v l) : Calls Try.prog 41 #[v] w fun e w' => CloneEnd w l e w' := by
  rcases h with h | ⟨rfl, x, cap, rfl⟩
  · exact copy_bs h
  · exact copy_emp w x cap

/-- The block xb is the document's reader, with the bytes l and the error e. -/
structure Rx (XB : Nat) (w : World) (xb : Nat) (l : List Int) (e : Int) : Prop where
  lt : xb < w.heap.size
  left : ∃ v, w.cell? ⟨xb, 0, none⟩ = some v ∧ Bs (fun b => XB ≤ b ∧ b < xb) w v l
  err : w.cell? ⟨xb, 1, none⟩ = some (.int .i64 e)
  free0 : w.frozen? ⟨xb, 0, none⟩ = false
  free1 : w.frozen? ⟨xb, 1, none⟩ = false

def NewX (w : World) (l : List Int) (e : Ending) (w' : World) : Prop :=
  ∃ xb, e = .returned (.pointer (some ⟨xb, 0, none⟩)) ∧ w.heap.size ≤ xb ∧ Rx w.heap.size w' xb l 0 ∧ Below w.heap.size w w'

set_option maxHeartbeats 400000 in
theorem NewX_of {w : World} {v : Value} {l : List Int} (h : Calls Try.prog 41 #[v] w fun e w' => CloneEnd w l e w') :
    Calls Try.prog 21 #[v] w fun e w' => NewX w l e w' := by
  have H : Hid (Calls Try.prog 41 #[v] w fun e w' => CloneEnd w l e w') := h
  clear h
  go_enter Try.func21, Try.ntmps21
  go_wp2_with (go_at_call 41; refine (H.out).mono ?_; rintro e w1 ⟨a, cap, rfl, hb, hf, hk⟩)
  go_ret
  refine ⟨w1.heap.size, rfl, hk.size, ?_, hk.alloc hk.size _⟩
  refine ⟨by simp, ⟨_, by simp; rfl, ?_⟩, by simp, by simp, by simp⟩
  obtain ⟨h1, h2, h3⟩ := hb
  refine ⟨h1, h2, ?_⟩
  rcases h3 with h3 | ⟨b, off, c, hv, hc, ha, hlt, hcell⟩
  · exact Or.inl h3
  · refine Or.inr ⟨b, off, c, hv, hc, ⟨ha, hlt⟩, by simp; omega, fun i hi => ?_⟩
    rw [World.cell?_alloc_past (w := w1) _ _ _ hlt]
    exact hcell i hi

variable {XB : Nat}

theorem Rx.keepB {w w' : World} {xb : Nat} {l : List Int} {e : Int} (h : Rx XB w xb l e) (k : Below w.heap.size w w') : Rx XB w' xb l e := by
  obtain ⟨h0, ⟨v, h2, h3⟩, h4, h5, h6⟩ := h
  exact ⟨Nat.lt_of_lt_of_le h0 k.size, ⟨v, (k.cell (p := ⟨xb, 0, none⟩) h0).trans h2, h3.keepB k⟩, (k.cell (p := ⟨xb, 1, none⟩) h0).trans h4, (k.frozen (p := ⟨xb, 0, none⟩) h0).trans h5, (k.frozen (p := ⟨xb, 1, none⟩) h0).trans h6⟩

theorem Rx.keepO {w w' : World} {xb rb : Nat} {l : List Int} {e : Int} (h : Rx XB w xb l e) (k : Kp (fun b => b = rb) w w') (hd : rb < XB ∨ xb < rb) (hle : XB ≤ xb) : Rx XB w' xb l e := by
  obtain ⟨h0, ⟨v, h2, h3⟩, h4, h5, h6⟩ := h
  have hn : ¬ xb = rb := by omega
  exact ⟨Nat.lt_of_lt_of_le h0 k.size, ⟨v, (k.cell (p := ⟨xb, 0, none⟩) h0 hn).trans h2, h3.keep k (fun b _ hb hb' => by have h' : b = rb := hb'; omega)⟩, (k.cell (p := ⟨xb, 1, none⟩) h0 hn).trans h4, (k.frozen (p := ⟨xb, 0, none⟩) h0 hn).trans h5, (k.frozen (p := ⟨xb, 1, none⟩) h0 hn).trans h6⟩

theorem Rx.setE {w : World} {xb : Nat} {l : List Int} {e : Int} (h : Rx XB w xb l e) (e1 : Int) : Rx XB (w.setCell ⟨xb, 1, none⟩ (.int .i64 e1)) xb l e1 := by
  obtain ⟨h0, ⟨v, h2, h3⟩, h4, h5, h6⟩ := h
  refine ⟨by simpa using h0, ⟨v, ?_, h3.keep (S := fun b => b = xb) ((Kp.refl (fun b => b = xb) w).setCell ⟨xb, 1, none⟩ _ (fun _ => rfl)) (fun b _ hb hb' => by have h' : b = xb := hb'; omega)⟩, ?_, by simpa using h5, by simpa using h6⟩
  · simp [go_sem, h2]
  · simp [go_sem, h4]

theorem Rx.setB {w : World} {xb : Nat} {l l' : List Int} {e : Int} (h : Rx XB w xb l e) {v' : Value} (hv : Bs (fun b => XB ≤ b ∧ b < xb) w v' l') : Rx XB (w.setCell ⟨xb, 0, none⟩ v') xb l' e := by
  obtain ⟨h0, ⟨v, h2, h3⟩, h4, h5, h6⟩ := h
  refine ⟨by simpa using h0, ⟨v', ?_, hv.keep (S := fun b => b = xb) ((Kp.refl (fun b => b = xb) w).setCell ⟨xb, 0, none⟩ v' (fun _ => rfl)) (fun b _ hb hb' => by have h' : b = xb := hb'; omega)⟩, ?_, by simpa using h5, by simpa using h6⟩
  · simp [go_sem, h2]
  · simp [go_sem, h4]

theorem kp_one (w : World) (b o : Nat) (v : Value) : Kp (fun k => k = b) w (w.setCell ⟨b, o, none⟩ v) := (Kp.refl (fun k => k = b) w).setCell ⟨b, o, none⟩ v (fun _ => rfl)

set_option maxHeartbeats 400000 in
theorem FailX_new {w : World} {xb : Nat} {l : List Int} (h : Rx XB w xb l 0) (e1 : Int) :
    Calls Try.prog 45 #[.pointer (some ⟨xb, 0, none⟩), .int .i64 e1] w fun e w' => e = .returned (.tuple #[]) ∧ w' = w.setCell ⟨xb, 1, none⟩ (.int .i64 e1) := by
  obtain ⟨h0, ⟨v, h2, h3⟩, h4, h5, h6⟩ := h
  clear h0 h2 h3 h5
  go_enter Try.func45, Try.ntmps45
  go_wp2
  go_end0
  exact ⟨rfl, rfl⟩

set_option maxHeartbeats 400000 in
theorem FailX_old {w : World} {xb : Nat} {l : List Int} {e0 : Int} (h : Rx XB w xb l e0) (he : e0 ≠ 0) (e1 : Int) :
    Calls Try.prog 45 #[.pointer (some ⟨xb, 0, none⟩), .int .i64 e1] w fun e w' => e = .returned (.tuple #[]) ∧ w' = w := by
  obtain ⟨h0, ⟨v, h2, h3⟩, h4, h5, h6⟩ := h
  have hn : (e0 == 0) = false := by rw [beq_eq_false_iff_ne]; exact he
  clear h0 h2 h3 h5 he
  go_enter Try.func45, Try.ntmps45
  go_wp2
  go_returns
  exact ⟨rfl, rfl⟩

set_option maxHeartbeats 400000 in
theorem LeftX_ok {w : World} {xb : Nat} {l : List Int} (h : Rx XB w xb l 0) (k : Nat) (hk : l.length = k) :
    Calls Try.prog 29 #[.pointer (some ⟨xb, 0, none⟩)] w fun e w' => e = .returned (.int .i64 k) ∧ w' = w := by
  obtain ⟨h0, ⟨v, h2, h3⟩, h4, h5, h6⟩ := h
  obtain ⟨a, cap, rfl⟩ := h3.len
  rw [hk] at h2
  clear h0 h3 h5 h6 hk
  go_enter Try.func29, Try.ntmps29
  go_wp2
  go_ret
  exact ⟨rfl, rfl⟩

set_option maxHeartbeats 400000 in
theorem LeftX_bad {w : World} {xb : Nat} {l : List Int} {e0 : Int} (h : Rx XB w xb l e0) (he : e0 ≠ 0) :
    Calls Try.prog 29 #[.pointer (some ⟨xb, 0, none⟩)] w fun e w' => e = .returned (.int .i64 0) ∧ w' = w := by
  obtain ⟨h0, ⟨v, h2, h3⟩, h4, h5, h6⟩ := h
  have hn : (e0 != 0) = true := by rw [bne_iff_ne]; exact he
  clear h0 h2 h3 h5 h6 he
  go_enter Try.func29, Try.ntmps29
  go_wp2
  go_ret
  exact ⟨rfl, rfl⟩

end Go.Proofs.Ytcgimbomandjfaa
