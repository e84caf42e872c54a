/- bytes.Clone and digits.New: a copy in new memory, and a reader of it. -/
import Derived.Test.YtcgimbomandjfabProg
import Derived.Test.YtcgimbomandjfabMem
namespace Go.Proofs.Ytcgimbomandjfab
open Go.RowKit

theorem i5 : Try.prog.info? 5 = some Try.t5 := by kernel_rfl
theorem z5 : Try.t5.zero = some (.int .u8 0) := by kernel_rfl
theorem s5 : Try.t5.size = 1 := by kernel_rfl
theorem b5 : Try.t5.bytes = 1 := by kernel_rfl

set_option maxHeartbeats 400000 in
theorem clone_nil (w : World) :
    Calls Try.prog 19 #[.slice none 0 0] w fun e w' => e = .returned (.slice none 0 0) ∧ w' = w := by
  have q22 : ∀ (w : World) (a : Option Addr) (n c n' c' : Nat), (binOp .eql 26 (.slice a n c) (.slice none n' c')).run Try.prog w = .ok (.bool a.isNone) w := fun w a n c n' c' => Lib.run_eql_slice_nil w _ _ a n c n' c' Try.underlying26
  go_enter Try.func19, Try.ntmps19
  go_wp2
  go_ret
  exact ⟨rfl, rfl⟩

set_option maxHeartbeats 400000 in
/-- A copy of a row that is there, by the run of its append. -/
theorem clone_run (x : Addr) (n cap : Nat) (w : World) (v' : Value) (w1 : World)
    (hrun : (Builtin.append_ #[26, 26] 26 #[.slice (some ⟨w.heap.size, 0, none⟩) 0 0, .slice (some x) n cap]).run Try.prog (w.alloc (.cells #[] 5)) = .ok v' w1) :
    Calls Try.prog 19 #[.slice (some x) n cap] w fun e w' => e = .returned v' ∧ w' = w1 := by
  have q22 : ∀ (w : World) (a : Option Addr) (n c n' c' : Nat), (binOp .eql 26 (.slice a n c) (.slice none n' c')).run Try.prog w = .ok (.bool a.isNone) w := fun w a n c n' c' => Lib.run_eql_slice_nil w _ _ a n c n' c' Try.underlying26
  have HR := hrun
  replace HR : Hid _ := HR
  clear hrun
  go_enter Try.func19, Try.ntmps19
  go_wp2_with (at_builtin; refine wpList_append_run _ rfl _ _ _ _ rfl _ _ rfl rfl v' w1 HR.out ?_)
  go_ret
  exact ⟨rfl, rfl⟩

theorem clone_any0 {A : Nat → Prop} {w : World} {v : Value} {l : List Int} (h : Bs A w v l) :
    Calls Try.prog 19 #[v] w fun e w' => ∃ v', e = .returned v' ∧ Bs (fun b => w.heap.size ≤ b) w' v' l ∧ Fr w' v' l.length ∧ Below w.heap.size w w' := by
  obtain ⟨h1, h2, h3⟩ := h
  rcases h3 with ⟨rfl, rfl⟩ | ⟨b, off, cap, rfl, hc, hA, hb, hcell⟩
  · refine (clone_nil w).mono ?_
    rintro e w' ⟨rfl, rfl⟩
    exact ⟨_, rfl, ⟨h1, h2, Or.inl ⟨rfl, rfl⟩⟩, Fr.ofNil _ _ _ _, Below.refl _ _⟩
  · have hbs : Bs A (w.alloc (.cells #[] 5)) (.slice (some ⟨b, off, none⟩) l.length cap) l :=
      Bs.keep (S := fun _ => False) (w := w) ⟨h1, h2, Or.inr ⟨b, off, cap, rfl, hc, hA, hb, hcell⟩⟩ ((Kp.refl _ _).alloc _) (fun _ _ _ hf => hf)
    have hsrc := src_bs (P := Try.prog) (t := 26) Try.underlying26 hbs
    have hd : Bs (fun b => w.heap.size ≤ b) (w.alloc (.cells #[] 5)) (.slice (some ⟨w.heap.size, 0, none⟩) ([] : List Int).length ([] : List Int).length) [] :=
      ⟨Byt.nil, by simp, Or.inr ⟨_, _, _, rfl, Nat.le_refl _, Nat.le_refl _, by simp, fun i hi => by cases hi⟩⟩
    by_cases h0 : 0 < l.length
    · obtain ⟨v', w1, hrun, r1, r2, r3⟩ := append_grow (ty := 26) Try.underlying26 i5 z5 s5 b5 hd hsrc h1 h0 (by simpa using h2)
      refine (clone_run ⟨b, off, none⟩ l.length cap w v' w1 hrun).mono ?_
      rintro e w' ⟨rfl, rfl⟩
      refine ⟨_, rfl, r1.weaken (fun k _ hk => ?_), r2, ?_⟩
      · have : (w.alloc (.cells #[] 5)).heap.size = w.heap.size + 1 := by simp
        omega
      · exact ((Below.refl _ _).alloc (Nat.le_refl _) _).trans (r3.mono (by simp))
    · have hl : l = [] := List.length_eq_zero_iff.1 (by omega)
      subst hl
      refine (clone_run ⟨b, off, none⟩ 0 cap w _ _ (append_none (ty := 26) Try.underlying26 i5 s5 w.heap.size 0 0 0 hsrc (Nat.le_refl _))).mono ?_
      rintro e w' ⟨rfl, rfl⟩
      exact ⟨_, rfl, hd, Fr.zero _ _, (Below.refl _ _).alloc (Nat.le_refl _) _⟩

/-- How bytes.Clone ends: a copy, in new memory. -/
def CloneEnd (w : World) (l : List Int) (e : Ending) (w' : World) : Prop :=
  ∃ a cap, e = .returned (.slice a l.length cap) ∧ Bs (fun b => w.heap.size ≤ b) w' (.slice a l.length cap) l ∧ Fr w' (.slice a l.length cap) l.length ∧ Below w.heap.size w w'

theorem clone_any {A : Nat → Prop} {w : World} {v : Value} {l : List Int} (h : Bs A w v l) :
    Calls Try.prog 19 #[v] w fun e w' => CloneEnd w l e w' := by
  refine (clone_any0 h).mono ?_
  rintro e w' ⟨v', rfl, hb, hf, hk⟩
  obtain ⟨a, cap, rfl⟩ := hb.len
  exact ⟨a, cap, rfl, hb, hf, hk⟩

/-- An empty row, wherever it lies. -/
theorem clone_emp (w : World) (x : Addr) (cap : Nat) :
    Calls Try.prog 19 #[.slice (some x) 0 cap] w fun e w' => CloneEnd w [] e w' := by
  have hsrc : Src Try.prog 1 26 (.slice (some x) 0 cap) 0 [] (w.alloc (.cells #[] 5)) :=
    Src.ofSlice _ Try.underlying26 x 0 cap [] (by simp) (fun j u hj => by simp at hj) (fun u hu => by cases hu)
  refine (clone_run x 0 cap w _ _ (append_none (ty := 26) Try.underlying26 i5 s5 w.heap.size 0 0 0 hsrc (Nat.le_refl _))).mono ?_
  rintro e w' ⟨rfl, rfl⟩
  exact ⟨_, _, rfl, ⟨Byt.nil, by simp, Or.inr ⟨_, _, _, rfl, Nat.le_refl _, Nat.le_refl _, by simp, fun i hi => by cases hi⟩⟩, Fr.zero _ _, (Below.refl _ _).alloc (Nat.le_refl _) _⟩

/-- In the world w the block rb is a reader, with the bytes l left and the error e. -/
structure Rd (RB : Nat) (w : World) (rb : Nat) (l : List Int) (e : Int) : Prop where
  lt : rb < w.heap.size
  made : w.cell? ⟨rb, 0, none⟩ = some (.bool true)
  left : ∃ v, w.cell? ⟨rb, 1, none⟩ = some v ∧ Bs (fun b => RB ≤ b ∧ b < rb) w v l
  err : w.cell? ⟨rb, 2, none⟩ = some (.int .i64 e)
  free1 : w.frozen? ⟨rb, 1, none⟩ = false
  free2 : w.frozen? ⟨rb, 2, none⟩ = false

/-- How digits.New ends. -/
def NewEnd (w : World) (l : List Int) (e : Ending) (w' : World) : Prop :=
  ∃ rb, e = .returned (.pointer (some ⟨rb, 0, none⟩)) ∧ w.heap.size ≤ rb ∧ Rd w.heap.size w' rb l 0 ∧ Below w.heap.size w w'

set_option maxHeartbeats 400000 in
/-- digits.New: a reader of a copy. -/
theorem New_of {w : World} {v : Value} {l : List Int} (h : Calls Try.prog 19 #[v] w fun e w' => CloneEnd w l e w') :
    Calls Try.prog 11 #[v] w fun e w' => NewEnd w l e w' := by
  have H : Hid (Calls Try.prog 19 #[v] w fun e w' => CloneEnd w l e w') := h
  clear h
  go_enter Try.func11, Try.ntmps11
  go_wp2_with (go_at_call 19; refine (H.out).mono ?_; rintro e w1 ⟨a, cap, rfl, hb, hf, hk⟩)
  go_ret
  refine ⟨w1.heap.size, rfl, hk.size, ?_, hk.alloc hk.size _⟩
  refine ⟨by simp, by simp, ⟨_, by simp; rfl, ?_⟩, by simp, by simp, by simp⟩
  obtain ⟨h1, h2, h3⟩ := hb
  refine ⟨h1, h2, ?_⟩
  rcases h3 with h3 | ⟨b, off, c, hv, hc, ha, hlt, hcell⟩
  · exact Or.inl h3
  · refine Or.inr ⟨b, off, c, hv, hc, ⟨ha, hlt⟩, by simp; omega, fun i hi => ?_⟩
    rw [World.cell?_alloc_past (w := w1) _ _ _ hlt]
    exact hcell i hi

theorem New_any {A : Nat → Prop} {w : World} {v : Value} {l : List Int} (h : Bs A w v l) :
    Calls Try.prog 11 #[v] w fun e w' => NewEnd w l e w' := New_of (clone_any h)

end Go.Proofs.Ytcgimbomandjfab
