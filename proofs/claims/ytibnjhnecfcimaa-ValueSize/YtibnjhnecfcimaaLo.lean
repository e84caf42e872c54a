/- A label that came in by value. -/
import Derived.Test.YtibnjhnecfcimaaMe
import Derived.Laws.IdiomArrays
import Derived.WideShapes
import Derived.ChangeSame
namespace Go.Proofs.Ytibnjhnecfcimaa
open Go.RowKit Go.ChangeShapes

theorem fields24 : ∃ f0 f1 : Field, Try.prog.fieldsOf 33 = #[f0, f1] ∧ f0.type = 3 ∧ f0.offset = 0 ∧ f1.type = 31 ∧ f1.offset = 1 := ⟨(Try.prog.fieldsOf 33)[0]!, (Try.prog.fieldsOf 33)[1]!, by kernel_rfl, by kernel_rfl, by kernel_rfl, by kernel_rfl, by kernel_rfl⟩
theorem lcells24 : Try.prog.cellsOf 33 = 2 := by kernel_rfl
theorem lcells3 : Try.prog.cellsOf 3 = 1 := by kernel_rfl
theorem lcells22 : Try.prog.cellsOf 31 = 1 := by kernel_rfl

set_option maxRecDepth 100000 in
theorem open_lab {H : Type} {enc : TypeId × Value → H} {W : World} {r : Reach} {b0 base : Nat} {sp : Nat → Bool} {held : Bool} {v : Value} {d : DataW H} {ps : List MemPlace} (hval : Value.okWide Try.prog W r b0 33 v)
    (h : DataW.Trod enc Try.prog W base sp held 33 v d ps) : ∃ x p, v = .agg #[.int .i64 x, .int .u32 p] ∧ ((Lit.int .i64 x).wf = true ∧ (Lit.int .u32 p).wf = true) := by
  obtain ⟨f0, f1, hf, t0, o0, t1, o1⟩ := fields24
  have u : Try.prog.underlying 33 = some (.struct #[f0, f1]) := by rw [und24, hf]
  obtain ⟨cs, rfl, hsz⟩ : ∃ cs : Array Value, v = .agg cs ∧ cs.size = 2 := by
    simp only [Value.okWide, u] at hval
    obtain ⟨cs, h1, h2, _⟩ := hval
    exact ⟨cs, h1, by rw [h2, lcells24]⟩
  obtain ⟨l⟩ := cs
  match l, hsz with
  | [c0, c1], _ =>
    obtain ⟨fuel, hf⟩ := h
    obtain ⟨y0, y1, n, _, _, h0, h1⟩ := trod_struct2 u hf
    rw [t0, o0, lcells3] at h0
    rw [t1, o1, lcells22] at h1
    obtain ⟨x0, e0, _, w0⟩ := DataW.trod_int Try.underlying3 h0
    obtain ⟨x1, e1, _, w1⟩ := DataW.trod_int Try.underlying31 h1
    simp [Value.cells] at e0 e1
    subst e0; subst e1
    exact ⟨x0, x1, rfl, w0, w1⟩

end Go.Proofs.Ytibnjhnecfcimaa
