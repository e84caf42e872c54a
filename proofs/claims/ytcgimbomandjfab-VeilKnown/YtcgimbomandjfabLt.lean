/- Three labels in blocks of their own; the labels as registers of 32 bits; regions whose callees make memory. -/
import Derived.Test.YtcgimbomandjfabWb
import Derived.Deep.Cut
import Derived.Deep.CutRange
import Derived.Deep.DeepCutAuto
namespace Go.Proofs.Ytcgimbomandjfab
open Go.RowKit
set_option linter.unusedVariables false

/-- A later world: all that was is as it was. -/
structure Ltr (w : World) where
  wd : World
  bel : Below w.heap.size w wd

theorem wp_region_later {P : Program} {id : Nat} {Q : Exit → Act → World → Prop} {a : Act} {w : World} {l : List Oper} (hm : P.follows .mixedOrders = true) (hB : Region.lexB .any l.toArray = true)
    (h : wpQuiet P l.toArray (fun w' => ∃ p : Ltr w, w' = p.wd) (fun a' => ∀ w', (∃ p : Ltr w, w' = p.wd) → Q .normal a' w') l a) : (Code.region id l.toArray true).wp P Q a w :=
  wp_region_quiet (C := fun w' => ∃ p : Ltr w, w' = p.wd) hm hB ⟨⟨w.drew, (Below.refl _ _).drew⟩, rfl⟩ (by simpa using h)

theorem Ltr.any (w : World) : Nonempty (Ltr w) := ⟨⟨w, Below.refl _ _⟩⟩

theorem later_of {P : Program} {f : FuncId} {args : Array Value} {w : World} {p : Ltr w} {v : Value}
    (h : Calls P f args p.wd fun e w' => VEnd p.wd v e w') : Calls P f args p.wd fun e w'' => e = .returned v ∧ ∃ q : Ltr w, w'' = q.wd :=
  h.mono fun _ w' ⟨he, hb⟩ => ⟨he, ⟨w', below_below p.bel hb⟩, rfl⟩

theorem Ltr.c0 {w : World} {b : Nat} {x p : Int} (h : Lb w b x p) (q : Ltr w) : q.wd.cell? ⟨b, 0, none⟩ = some (.int .i64 x) := (h.keep q.bel).c0
theorem Ltr.c1 {w : World} {b : Nat} {x p : Int} (h : Lb w b x p) (q : Ltr w) : q.wd.cell? ⟨b, 1, none⟩ = some (.int .u32 p) := (h.keep q.bel).c1

/-- Blocks N, N + 1, N + 2 hold these labels; all that was at w is as it was. -/
structure L3 (w : World) (N : Nat) (x p y q z r : Int) (W : World) : Prop where
  bel : Below w.heap.size w W
  a : Lb W N x p
  b : Lb W (N + 1) y q
  c : Lb W (N + 2) z r
  le : w.heap.size ≤ N

theorem L3.call {w W W' : World} {N : Nat} {x p y q z r : Int} (h : L3 w N x p y q z r W) (k : Below W.heap.size W W') : L3 w N x p y q z r W' := ⟨below_below h.bel k, h.a.keep k, h.b.keep k, h.c.keep k, h.le⟩
theorem L3.drew {w W : World} {N : Nat} {x p y q z r : Int} (h : L3 w N x p y q z r W) : L3 w N x p y q z r W.drew := ⟨h.bel.drew, h.a, h.b, h.c, h.le⟩
theorem L3.alloc {w W : World} {N : Nat} {x p y q z r : Int} (h : L3 w N x p y q z r W) (o : Obj) : L3 w N x p y q z r (W.alloc o) := h.call (below1 W o)
theorem L3.first (w : World) (x p y q z r : Int) : L3 w w.heap.size x p y q z r (((w.alloc (.cells #[.int .i64 x, .int .u32 p] 24)).alloc (.cells #[.int .i64 y, .int .u32 q] 24)).alloc (.cells #[.int .i64 z, .int .u32 r] 24)) := by
  have b1 := Lb.new w x p
  have b2 := Lb.new (w.alloc (.cells #[.int .i64 x, .int .u32 p] 24)) y q
  have b3 := Lb.new ((w.alloc (.cells #[.int .i64 x, .int .u32 p] 24)).alloc (.cells #[.int .i64 y, .int .u32 q] 24)) z r
  simp only [World.size_alloc] at b2 b3
  exact ⟨below3 _ _ _ _, (b1.alloc _).alloc _, b2.alloc _, b3, Nat.le_refl _⟩
theorem L3.setA {w W : World} {N : Nat} {x p y q z r : Int} (h : L3 w N x p y q z r W) (x' p' : Int) : L3 w N x' p' y q z r ((W.setCell ⟨N, 0, none⟩ (.int .i64 x')).setCell ⟨N, 1, none⟩ (.int .u32 p')) :=
  ⟨below_set2 h.bel N _ _ h.le, (h.a.set0 _).set1 _, (h.b.other _ _ (by simp)).other _ _ (by simp), (h.c.other _ _ (by simp)).other _ _ (by simp), h.le⟩
theorem L3.setB {w W : World} {N : Nat} {x p y q z r : Int} (h : L3 w N x p y q z r W) (x' p' : Int) : L3 w N x p x' p' z r ((W.setCell ⟨N + 1, 0, none⟩ (.int .i64 x')).setCell ⟨N + 1, 1, none⟩ (.int .u32 p')) :=
  ⟨below_set2 h.bel (N + 1) _ _ (Nat.le_succ_of_le h.le), (h.a.other _ _ (by simp)).other _ _ (by simp), (h.b.set0 _).set1 _, (h.c.other _ _ (by simp)).other _ _ (by simp), h.le⟩
theorem L3.setC {w W : World} {N : Nat} {x p y q z r : Int} (h : L3 w N x p y q z r W) (x' p' : Int) : L3 w N x p y q x' p' ((W.setCell ⟨N + 2, 0, none⟩ (.int .i64 x')).setCell ⟨N + 2, 1, none⟩ (.int .u32 p')) :=
  ⟨below_set2 h.bel (N + 2) _ _ (by have := h.le; omega), (h.a.other _ _ (by simp)).other _ _ (by simp), (h.b.other _ _ (by simp)).other _ _ (by simp), (h.c.set0 _).set1 _, h.le⟩

end Go.Proofs.Ytcgimbomandjfab
