/- What the laws use besides: digests held against one another, numbers brought into bounds, rows that came in. -/
import Derived.Test.YteefpbeglmnilaaDoorHx
import Derived.Laws.StructEq
import Derived.Deep.QuietTactic
import Derived.BigQuiet
import Derived.OpenShut
namespace Go.Proofs.YteefpbeglmnilaaDoor
open Go.RowKit
set_option linter.unusedVariables false

set_option maxRecDepth 100000 in
set_option maxHeartbeats 2000000 in
theorem eq28 (d : List Int) (hl : d.length = 32) (w : World) : (Op.equalIn 10000 24 (.agg (bs d).toArray) (.agg (bs d).toArray)).run Tryd.prog w = .ok true w := by
  have u5 := Tryd.underlying5
  have a5 := Tryd.isAgg5
  have z5 := Tryd.sizeOf5
  match d, hl with
  | [x0, x1, x2, x3, x4, x5, x6, x7, x8, x9, x10, x11, x12, x13, x14, x15, x16, x17, x18, x19, x20, x21, x22, x23, x24, x25, x26, x27, x28, x29, x30, x31], _ =>
    rw [show (10000 : Nat) = 9999 + 1 from rfl, Op.equalIn]
    simp only [Sem.run_bind, run_underlying und28, Result.andThen_ok]
    simp only [Std.Legacy.Range.forIn_eq_forIn_range', Std.Legacy.Range.size, Nat.sub_zero, Nat.add_sub_cancel, Nat.div_one, List.range'_succ, List.range'_zero, List.forIn_cons, List.forIn_nil, bs, List.map_cons, List.map_nil]
    go_simp

/-- A later world: all that was is as it was. -/
structure Ltr (w : World) where
  to : World
  bel : Below w.heap.size w to

theorem wp_region_later {P : Program} {id : Nat} {Q : Exit → Act → World → Prop} {a : Act} {w : World} {l : List Oper} (hm : P.follows .mixedOrders = true) (hB : Region.lexB .any l.toArray = true)
    (h : wpQuiet P l.toArray (fun w' => ∃ p : Ltr w, w' = p.to) (fun a' => ∀ w', (∃ p : Ltr w, w' = p.to) → Q .normal a' w') l a) : (Code.region id l.toArray true).wp P Q a w :=
  wp_region_quiet (C := fun w' => ∃ p : Ltr w, w' = p.to) hm hB ⟨⟨w.drew, (Below.refl _ _).drew⟩, rfl⟩ (by simpa using h)

theorem Ltr.any (w : World) : Nonempty (Ltr w) := ⟨⟨w, Below.refl _ _⟩⟩

theorem later_of {P : Program} {f : FuncId} {args : Array Value} {w : World} {p : Ltr w} {v : Value}
    (h : Calls P f args p.to fun e w' => e = .returned v ∧ Below p.to.heap.size p.to w') : Calls P f args p.to fun e w'' => e = .returned v ∧ ∃ q : Ltr w, w'' = q.to :=
  h.mono fun _ w' ⟨he, hb⟩ => ⟨he, ⟨w', below_below p.bel hb⟩, rfl⟩
theorem later_same {P : Program} {f : FuncId} {args : Array Value} {w : World} {p : Ltr w} {v : Value}
    (h : Calls P f args p.to fun e w' => e = .returned v ∧ w' = p.to) : Calls P f args p.to fun e w'' => e = .returned v ∧ ∃ q : Ltr w, w'' = q.to :=
  h.mono fun _ _ ⟨he, hb⟩ => ⟨he, p, hb⟩

end Go.Proofs.YteefpbeglmnilaaDoor
