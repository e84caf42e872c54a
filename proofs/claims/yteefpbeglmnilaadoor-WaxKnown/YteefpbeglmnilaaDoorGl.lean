/- What the listed variables give: the table of bits. -/
import Derived.Test.YteefpbeglmnilaaDoorRows
import Derived.Test.YteefpbeglmnilaaDoorFb
import Derived.ProofKit
import Derived.LaidMore
import Derived.OpenShut
import Derived.Stop.Joined
namespace Go.Proofs.YteefpbeglmnilaaDoor
open Go.ChangeShapes Go.WideShapes Go.ChangeAt Go.WideMaps Go.WideElems Go.RowKit
set_option linter.unusedVariables false

/-- The variables that the rows list. -/
def lv {H : Type} : List (String × DataW H) := [("math/bits.deBruijn32tab", Rows.laid_math_bits_deBruijn32tab), ("math/bits.deBruijn64tab", Rows.laid_math_bits_deBruijn64tab), ("internal/strconv.uint64pow10", Rows.laid_internal_strconv_uint64pow10)]

theorem own : ownKnob Tryd.prog.godebug = none := by kernel_rfl
theorem g64 : Tryd.prog.globalNamed "math/bits.deBruijn64tab" = some 3 := by kernel_rfl
theorem t64 : (Tryd.prog.globals[3]?).map (·.type) = some 39 := by kernel_rfl

theorem door_met (os : Os) (args : Array Value) : laidMetH Tryd.prog lv ((World.doorLaid Tryd.prog 400 os).forCall (fun _ _ => 0) ⟨#[], args, []⟩).memory :=
  laidMetH_of_parts3 (fuel := 8) (laidMet_of_run' 8 (by kernel_rfl) (by kernel_rfl)) (by kernel_rfl) (by kernel_rfl)

set_option maxRecDepth 100000 in
theorem of_laid {W : World} (h : laidMetH Tryd.prog lv W) : Glob W := by
  rw [MakeChecks.laidMetH_plain _ _ _ (by kernel_rfl)] at h
  obtain ⟨ps, ⟨g0, t0, cs0, f0, p0, q0, hg0, ht0, hv0, hd0, ⟨g1, t1, cs1, f1, p1, q1, hg1, ht1, hv1, hd1, _, _⟩, _⟩, _, _⟩ := h
  obtain rfl := Option.some.inj (g64.symm.trans hg1)
  obtain rfl := Option.some.inj (t64.symm.trans ht1)
  obtain ⟨xs, m1, rfl, hx1, hlen, hn3, hel⟩ := DataW.trod_array Tryd.underlying39 hd1
  have c5 : Tryd.prog.cellsOf 5 = 1 := by kernel_rfl
  have h15 := hel 15 (by decide)
  rw [c5, Nat.mul_one] at h15
  have hl15 : 15 < xs.length := by omega
  rw [List.getElem?_eq_getElem hl15] at h15
  obtain ⟨k, e1, e2, _⟩ := DataW.trod_int Tryd.underlying5 h15
  have hfst : (List.map (fun x => x.fst) xs)[15]? = some (DataW.lit (.int .u8 4)) := by
    have h1 := congrArg Prod.fst hx1
    simp only at h1
    rw [← DataW.agg.inj h1]
    rfl
  rw [List.getElem?_map, List.getElem?_eq_getElem hl15] at hfst
  simp only [Option.map_some, Option.some.injEq] at hfst
  rw [e2] at hfst
  have hk : k = 4 := by simpa using hfst
  subst hk
  have hc := World.var?_cell hg1 hv1 15
  have hcs : cs1.toList[15]? = some (.int .u8 4) := by
    have h2 := congrArg (fun l => l[0]?) e1
    simpa [List.getElem?_take, List.getElem?_drop] using h2
  unfold Glob
  rw [hc]
  simpa using hcs
end Go.Proofs.YteefpbeglmnilaaDoor
