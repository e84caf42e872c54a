/- Three labels handed in and two that were made, each in a block of its own. -/
import Derived.Test.YtcgimbomandjfaaRe
import Derived.Test.YtcgimbomandjfaaPl
namespace Go.Proofs.Ytcgimbomandjfaa
open Go.RowKit
set_option linter.unusedVariables false

/-- Two pointers that are there, or none; not to the same. -/
structure Two (W : World) (u v : Value) : Prop where
  a : ∀ g, u = .pointer (some ⟨g, 0, none⟩) → g < W.heap.size
  b : ∀ g, v = .pointer (some ⟨g, 0, none⟩) → g < W.heap.size
  ne : ∀ g, u = .pointer (some ⟨g, 0, none⟩) → v = .pointer (some ⟨g, 0, none⟩) → False

theorem Two.keep {W W' : World} {u v : Value} (h : Two W u v) (k : Below W.heap.size W W') : Two W' u v :=
  ⟨fun g e => Nat.lt_of_lt_of_le (h.a g e) k.size, fun g e => Nat.lt_of_lt_of_le (h.b g e) k.size, h.ne⟩
theorem Two.start (W : World) : Two W undef undef := ⟨fun g e => (by cases e), fun g e => (by cases e), fun g e _ => (by cases e)⟩
theorem Two.newA {W : World} {u v : Value} (h : Two W u v) (o : Obj) : Two (W.alloc o) (.pointer (some ⟨W.heap.size, 0, none⟩)) v :=
  ⟨fun g e => by cases e; simp, fun g e => by have := h.b g e; simp; omega, fun g e e' => by cases e; have := h.b _ e'; omega⟩
theorem Two.newB {W : World} {u v : Value} (h : Two W u v) (o : Obj) : Two (W.alloc o) u (.pointer (some ⟨W.heap.size, 0, none⟩)) :=
  ⟨fun g e => by have := h.a g e; simp; omega, fun g e => by cases e; simp, fun g e e' => by cases e'; have := h.a _ e; omega⟩

theorem L3.set2 {w W : World} {N : Nat} {x p y q z r : Int} (h : L3 w N x p y q z r W) (g : Nat) (u v : Value) (hg : N + 2 < g) : L3 w N x p y q z r ((W.setCell ⟨g, 0, none⟩ u).setCell ⟨g, 1, none⟩ v) :=
  ⟨below_set2 h.bel g _ _ (by have := h.le; omega), (h.a.other _ _ (show N ≠ g by omega)).other _ _ (show N ≠ g by omega), (h.b.other _ _ (show N + 1 ≠ g by omega)).other _ _ (show N + 1 ≠ g by omega), (h.c.other _ _ (show N + 2 ≠ g by omega)).other _ _ (show N + 2 ≠ g by omega), h.le⟩

structure L5 (w : World) (N : Nat) (x p y q z r : Int) (g h : Nat) (s t u v : Int) (W : World) : Prop where
  l3 : L3 w N x p y q z r W
  j : Lb W g s t
  m : Lb W h u v
theorem L5.call {w W W' : World} {N : Nat} {x p y q z r : Int} {g h : Nat} {s t u v : Int} (l : L5 w N x p y q z r g h s t u v W) (k : Below W.heap.size W W') : L5 w N x p y q z r g h s t u v W' := ⟨l.l3.call k, l.j.keep k, l.m.keep k⟩
theorem L5.mk2 {w W : World} {N : Nat} {x p y q z r : Int} {g h : Nat} {s t u v : Int} (l : L3 w N x p y q z r W) (hg : Lb W g 0 0) (hh : Lb W h 0 0) (ng : N + 2 < g) (nh : N + 2 < h) (ne : g ≠ h) :
    L5 w N x p y q z r g h s t u v ((((W.setCell ⟨g, 0, none⟩ (.int .i64 s)).setCell ⟨g, 1, none⟩ (.int .u32 t)).setCell ⟨h, 0, none⟩ (.int .i64 u)).setCell ⟨h, 1, none⟩ (.int .u32 v)) :=
  ⟨(l.set2 g _ _ ng).set2 h _ _ nh, (((hg.set0 _).set1 _).other _ _ ne).other _ _ ne, (((hh.other _ _ (Ne.symm ne)).other _ _ (Ne.symm ne)).set0 _).set1 _⟩

theorem L3.size {w W : World} {N : Nat} {x p y q z r : Int} (h : L3 w N x p y q z r W) : N + 2 < W.heap.size := h.c.lt

end Go.Proofs.Ytcgimbomandjfaa
