/- An array of two numbers that came in by value. -/
import Derived.Test.YteefpbeglmnilaaDoorWt
import Derived.Laws.IdiomArrays
import Derived.WideShapes
namespace Go.Proofs.YteefpbeglmnilaaDoor
open Go.RowKit Go.ChangeShapes

theorem und33a : Tryd.prog.underlying 33 = some (.array 2 3) := by kernel_rfl
theorem und3 : Tryd.prog.underlying 3 = some (.int .i64) := by kernel_rfl
theorem cells33 : Tryd.prog.cellsOf 33 = 2 := by kernel_rfl
theorem cells3 : Tryd.prog.cellsOf 3 = 1 := by kernel_rfl

theorem trod_array2 {H : Type} {enc : TypeId × Value → H} {P : Program} {w : World} {base : Nat} {spare : Nat → Bool} {held : Bool} {t e : TypeId} {fuel : Nat} {c0 c1 : Value} {x : DataW H × List MemPlace} (ht : P.underlying t = some (.array 2 e)) (hce : P.cellsOf e = 1)
    (h : DataW.trod enc P w base spare held fuel t [c0, c1] = some x) :
    ∃ y0 y1 n, DataW.trod enc P w base spare held n e [c0] = some y0 ∧ DataW.trod enc P w base spare held n e [c1] = some y1 := by
  cases fuel with
  | zero => simp [DataW.trod] at h
  | succ n =>
    unfold DataW.trod at h
    rw [ht] at h
    simp only [hce] at h
    cases h0 : DataW.trod enc P w base spare held n e [c0] with
    | none => simp [h0, List.range_succ] at h
    | some y0 =>
      cases h1 : DataW.trod enc P w base spare held n e [c1] with
      | none => simp [h0, h1, List.range_succ] at h
      | some y1 => exact ⟨y0, y1, n, h0, h1⟩

set_option maxRecDepth 100000 in
theorem open_arr2 {H : Type} {enc : TypeId × Value → H} {W : World} {r : Reach} {b0 base : Nat} {sp : Nat → Bool} {held : Bool} {v : Value} {d : DataW H} {ps : List MemPlace} (hval : Value.okWide Tryd.prog W r b0 33 v)
    (h : DataW.Trod enc Tryd.prog W base sp held 33 v d ps) : ∃ x0 x1, v = .agg #[.int .i64 x0, .int .i64 x1] ∧ ((Lit.int .i64 x0).wf = true ∧ (Lit.int .i64 x1).wf = true) := by
  obtain ⟨cs, rfl, hsz⟩ : ∃ cs : Array Value, v = .agg cs ∧ cs.size = 2 := by
    simp only [Value.okWide, und33a] at hval
    obtain ⟨cs, h1, h2, _⟩ := hval
    exact ⟨cs, h1, by rw [h2, cells33]⟩
  obtain ⟨l⟩ := cs
  match l, hsz with
  | [c0, c1], _ =>
    obtain ⟨fuel, hf⟩ := h
    obtain ⟨y0, y1, n, h0, h1⟩ := trod_array2 und33a cells3 hf
    obtain ⟨x0, e0, _, w0⟩ := DataW.trod_int und3 h0
    obtain ⟨x1, e1, _, w1⟩ := DataW.trod_int und3 h1
    simp only [List.cons.injEq, and_true] at e0 e1
    subst e0; subst e1
    exact ⟨x0, x1, rfl, w0, w1⟩

end Go.Proofs.YteefpbeglmnilaaDoor
