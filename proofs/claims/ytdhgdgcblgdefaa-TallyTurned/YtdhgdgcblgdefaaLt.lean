/- A region that draws its order, whose operations only read and whose callees may make memory: walked once, in the class of all later worlds. -/
import Derived.Test.YtdhgdgcblgdefaaIn
import Derived.Deep.QuietTactic
import Derived.BigQuiet
namespace Go.Proofs.Ytdhgdgcblgdefaa
open Go.RowKit

/-- A later world: all that was is as it was. -/
structure Ltr (w : World) where
  to : World
  bel : Below w.heap.size w to

theorem wp_region_later {P : Program} {id : Nat} {Q : Exit → Act → World → Prop} {a : Act} {w : World} {l : List Oper} (hm : P.follows .mixedOrders = true) (hB : Region.lexB .any l.toArray = true)
    (h : wpQuiet P l.toArray (fun w' => ∃ p : Ltr w, w' = p.to) (fun a' => ∀ w', (∃ p : Ltr w, w' = p.to) → Q .normal a' w') l a) : (Code.region id l.toArray true).wp P Q a w :=
  wp_region_quiet (C := fun w' => ∃ p : Ltr w, w' = p.to) hm hB ⟨⟨w.drew, (Below.refl _ _).drew⟩, rfl⟩ (by simpa using h)

theorem Ltr.any (w : World) : Nonempty (Ltr w) := ⟨⟨w, Below.refl _ _⟩⟩

theorem later_of {P : Program} {f : FuncId} {args : Array Value} {w : World} {p : Ltr w} {v : Value}
    (h : Calls P f args p.to fun e w' => e = .returned v ∧ Below p.to.heap.size p.to w') : Calls P f args p.to fun e w'' => e = .returned v ∧ ∃ q : Ltr w, w'' = q.to :=
  h.mono fun _ w' ⟨he, hb⟩ => ⟨he, ⟨w', below_below p.bel hb⟩, rfl⟩

theorem later_drew {P : Program} {f : FuncId} {args : Array Value} {w : World} {p : Ltr w} {v : Value}
    (h : Calls P f args p.to fun e w' => e = .returned v ∧ ∃ m, w' = p.to.drewN m) : Calls P f args p.to fun e w'' => e = .returned v ∧ ∃ q : Ltr w, w'' = q.to :=
  h.mono fun _ _ ⟨he, m, hm⟩ => ⟨he, ⟨p.to.drewN m, below_drewN p.bel m⟩, hm⟩

theorem Ltr.cell {w : World} {a : Addr} {v : Value} (hb : a.block < w.heap.size) (h : w.cell? a = some v) (p : Ltr w) : p.to.cell? a = some v := by
  rw [(kpB p.bel (fun _ => False)).cell hb (fun h => h)]
  exact h

end Go.Proofs.Ytdhgdgcblgdefaa
