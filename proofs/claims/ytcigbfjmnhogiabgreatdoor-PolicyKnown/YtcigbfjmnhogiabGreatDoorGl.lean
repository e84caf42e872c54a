/- What the listed variables give: the table of powers of ten, the two errors. -/
import Derived.Test.YtcigbfjmnhogiabGreatDoorRows
import Derived.Test.YtcigbfjmnhogiabGreatDoorNb
import Derived.ProofKit
import Derived.LaidLaws
import Derived.Lay
import Derived.LaidSub
import Derived.OpenShut
import Derived.Stop.Joined
import Derived.Lib.LaidTab
namespace Go.Proofs.YtcigbfjmnhogiabGreatDoor
open Go.ChangeShapes Go.WideShapes Go.ChangeAt Go.WideMaps Go.WideElems Go.RowKit
set_option linter.unusedVariables false

/-- The variables that the rows list. -/
def lv : List (String × DataW Unit) := Rows.policyKnownRow.laid

theorem own : ownKnob Tryz.prog.godebug = none := by kernel_rfl
theorem gPow : Tryz.prog.globalNamed "internal/strconv.uint64pow10" = some 1 := by kernel_rfl
theorem tPow : (Tryz.prog.globals[1]?).map (·.type) = some 131 := by kernel_rfl
theorem gSyn : Tryz.prog.globalNamed "strconv.ErrSyntax" = some 2 := by kernel_rfl
theorem tSyn : (Tryz.prog.globals[2]?).map (·.type) = some 55 := by kernel_rfl
theorem gRng : Tryz.prog.globalNamed "strconv.ErrRange" = some 3 := by kernel_rfl
theorem tRng : (Tryz.prog.globals[3]?).map (·.type) = some 55 := by kernel_rfl
theorem gBit : Tryz.prog.globalNamed "math/bits.deBruijn64tab" = some 5 := by kernel_rfl
theorem u140 : Tryz.prog.underlying 131 = some (.array 20 78) := by kernel_rfl
theorem u128' : Tryz.prog.underlying 78 = some (.int .u64) := by kernel_rfl
theorem u60 : ∃ ms, Tryz.prog.underlying 55 = some (.interface ms) := ⟨(match Tryz.prog.underlying 55 with | some (.interface ms) => ms | _ => #[]), by kernel_rfl⟩

set_option maxRecDepth 100000 in
theorem door_met (os : Os) (args : Array Value) : laidMetH Tryz.prog lv ((World.laidAll Tryz.prog os lv).forCall (fun _ _ => 0) ⟨#[], args, []⟩).memory := by
  rw [MakeChecks.laidMetH_plain _ _ _ (by kernel_rfl)]
  exact laidMet_laidAll _ (by kernel_rfl) (by kernel_rfl)
set_option maxRecDepth 100000 in
theorem door_shaped (os : Os) : (World.laidAll Tryz.prog os lv).Shaped Tryz.prog := World.shaped_of_ZipB (by kernel_rfl) (by kernel_rfl)

theorem pow_list : lv.filter (fun x => x.1 == "internal/strconv.uint64pow10") = [("internal/strconv.uint64pow10", Lib.tabData .u64 Lib.pow10Tab)] := by kernel_rfl
theorem syn_list : lv.filter (fun x => x.1 == "strconv.ErrSyntax") = [("strconv.ErrSyntax", Rows.laid_strconv_ErrSyntax)] := by kernel_rfl
theorem rng_list : lv.filter (fun x => x.1 == "strconv.ErrRange") = [("strconv.ErrRange", Rows.laid_strconv_ErrRange)] := by kernel_rfl
theorem bit_list : lv.filter (fun x => x.1 == "math/bits.deBruijn64tab") = [("math/bits.deBruijn64tab", Rows.laid_math_bits_deBruijn64tab)] := by kernel_rfl

/-- A variable that holds an error. -/
theorem iface_laid {W : World} {n : String} {d : DataW Unit} {nm : String} {g : Nat} (hg : Tryz.prog.globalNamed n = some g) (ht : (Tryz.prog.globals[g]?).map (·.type) = some 55)
    (h : laidMet Tryz.prog [(n, .iface nm d)] W) : ∃ t p, W.cell? ⟨g, 0, none⟩ = some (.iface t p) := by
  obtain ⟨ps, ⟨g', t', cs, fuel, p, q, hg', ht', hvar, hd, _, _⟩, _⟩ := h
  obtain rfl := Option.some.inj (hg.symm.trans hg')
  obtain rfl := Option.some.inj (ht.symm.trans ht')
  obtain ⟨ms, hu⟩ := u60
  obtain ⟨f, u, v, hc, _⟩ := iface_of_trod hu hd
  have h2 := World.var?_cell hg hvar 0
  obtain ⟨l⟩ := cs
  simp only at hc
  subst hc
  exact ⟨u, v, by simpa using h2⟩
theorem size_laid {W : World} {n : String} {d : DataW Unit} {g : Nat} (hg : Tryz.prog.globalNamed n = some g) (h : laidMet Tryz.prog [(n, d)] W) : g < W.heap.size := by
  obtain ⟨ps, ⟨g', t', cs, fuel, p, q, hg', ht', hvar, hd, _, _⟩, _⟩ := h
  obtain rfl := Option.some.inj (hg.symm.trans hg')
  unfold World.var? at hvar
  rw [hg] at hvar
  simp only [Option.bind_some] at hvar
  by_cases hh : g < W.heap.size
  · exact hh
  · rw [Array.getElem?_eq_none (by omega)] at hvar
    cases hvar

theorem of_laid {W : World} (h : laidMetH Tryz.prog lv W) : Glob W ∧ 6 ≤ W.heap.size := by
  rw [MakeChecks.laidMetH_plain _ _ _ (by kernel_rfl)] at h
  have h1 := h.filter (fun x => x.1 == "internal/strconv.uint64pow10")
  have h2 := h.filter (fun x => x.1 == "strconv.ErrSyntax")
  have h3 := h.filter (fun x => x.1 == "strconv.ErrRange")
  have h4 := h.filter (fun x => x.1 == "math/bits.deBruijn64tab")
  rw [pow_list] at h1
  rw [syn_list] at h2
  rw [rng_list] at h3
  rw [bit_list] at h4
  exact ⟨⟨Lib.tabIs_of_head gPow tPow u140 u128' (by kernel_rfl) (by kernel_rfl) h1, iface_laid gSyn tSyn h2, iface_laid gRng tRng h3⟩, size_laid gBit h4⟩

end Go.Proofs.YtcigbfjmnhogiabGreatDoor
