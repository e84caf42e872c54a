/- Labels: plain words, and Check, may, at, near. -/
import Derived.Test.YtcgimbomandjfabBr
import Derived.Laws.BitsAllLaws
import Derived.Laws.Rows
import Derived.Laws.StructEq
import Derived.Deep.QuietTactic
import Derived.BigQuiet
import Derived.Deep.RegionHeld3
namespace Go.Proofs.Ytcgimbomandjfab
open Go.RowKit
set_option linter.unusedVariables false

/-- A call that answers v and leaves what was as it was. -/
def VEnd (w : World) (v : Value) (e : Ending) (w' : World) : Prop := e = .returned v ∧ Below w.heap.size w w'

theorem VEnd.mk {w : World} {v : Value} {w' : World} (h : Below w.heap.size w w') : VEnd w v (.returned v) w' := ⟨rfl, h⟩

theorem VEnd.eq {w : World} {v v' : Value} {e : Ending} {w' : World} (h : VEnd w v e w') (hv : v = v') : VEnd w v' e w' := hv ▸ h

/-- Levels that may be. -/
def okL (x : Int) : Bool := decide (0 ≤ x) && decide (x ≤ 7)

theorem okL_true {x : Int} (h : okL x = true) : 0 ≤ x ∧ x ≤ 7 := by
  unfold okL at h
  simpa using h
theorem okL_false {x : Int} (h : okL x = false) : x < 0 ∨ 7 < x := by
  unfold okL at h
  rw [Bool.and_eq_false_iff] at h
  simp only [decide_eq_false_iff_not] at h
  omega

theorem below1 (w : World) (a : Obj) : Below w.heap.size w (w.alloc a) := (Below.refl _ _).alloc (Nat.le_refl _) _
theorem below2 (w : World) (a b : Obj) : Below w.heap.size w ((w.alloc a).alloc b) := (below1 w a).alloc (by simp) _
theorem below3 (w : World) (a b c : Obj) : Below w.heap.size w (((w.alloc a).alloc b).alloc c) := (below2 w a b).alloc (by simp; omega) _

set_option maxHeartbeats 400000 in
theorem check_any (x p : Int) (w : World) :
    Calls Try.prog 6 #[.agg #[.int .i64 x, .int .u32 p]] w fun e w' => VEnd w (.int .i64 (if okL x then 0 else 9)) e w' := by
  cases h : okL x
  · have h' := okL_false h
    rcases h' with h' | h'
    all_goals
      clear h
      go_enter Try.func6, Try.ntmps6
      go_wp2
      go_ret
      exact VEnd.mk (below1 _ _)
  · obtain ⟨h0, h1⟩ := okL_true h
    clear h
    go_enter Try.func6, Try.ntmps6
    go_wp2
    go_ret
    exact VEnd.mk (below1 _ _)

theorem und24 : Try.prog.underlying 24 = some (.struct (Try.prog.fieldsOf 24)) := by kernel_rfl
theorem info24 : (Try.prog.info? 24).map (·.size) = some 2 := by kernel_rfl

/-- A label as a result. -/
theorem res_lab {fn : Func} {p : Tmp} (h : fn.results = #[.cell p 24]) (tmps : Array Value) (w : World) (g : Nat) (t : TypeId) (x y : Value) (fr : Nat × Nat)
    (hp : tmps.getD p undef = .pointer (some ⟨g, 0, none⟩)) (hg : w.heap[g]? = some (.cells #[x, y] t fr)) :
    (results fn tmps).run Try.prog w = .ok (.agg #[x, y]) w :=
  results_cell_row (P := Try.prog) (fn := fn) (p := p) (ty := 24) h tmps w g t #[x, y] fr _ hp hg und24 rfl info24

set_option maxHeartbeats 400000 in
theorem at_any (x p : Int) (w : World) :
    Calls Try.prog 4 #[.int .i64 x, .int .u32 p] w fun e w' => VEnd w (.agg #[.int .i64 x, .int .u32 p]) e w' := by
  go_enter Try.func4, Try.ntmps4
  go_wp2
  refine bodyPost_ret (res_lab rfl _ _ w.heap.size _ _ _ _ rfl (heap_alloc_new _ _)) rfl ?_
  exact VEnd.mk (below1 _ _)

end Go.Proofs.Ytcgimbomandjfab
