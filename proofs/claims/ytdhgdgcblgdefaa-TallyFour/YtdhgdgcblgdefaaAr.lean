/- An array of four bytes that came in by value. -/
import Derived.Test.YtdhgdgcblgdefaaEa
import Derived.Laws.IdiomArrays
import Derived.WideShapes
namespace Go.Proofs.Ytdhgdgcblgdefaa
open Go.RowKit Go.ChangeShapes

theorem cells34 : Try.prog.cellsOf 34 = 4 := by kernel_rfl
theorem cells5 : Try.prog.cellsOf 5 = 1 := by kernel_rfl

theorem byt4 {x0 x1 x2 x3 : Int} (w0 : (Lit.int .u8 x0).wf = true) (w1 : (Lit.int .u8 x1).wf = true) (w2 : (Lit.int .u8 x2).wf = true) (w3 : (Lit.int .u8 x3).wf = true) : Byt [x0, x1, x2, x3] := by
  intro y hy
  simp only [List.mem_cons, List.not_mem_nil, or_false] at hy
  have h0 := bounds_u8 w0
  have h1 := bounds_u8 w1
  have h2 := bounds_u8 w2
  have h3 := bounds_u8 w3
  omega

theorem open_arr4 {H : Type} {enc : TypeId × Value → H} {W : World} {r : Reach} {b0 base : Nat} {sp : Nat → Bool} {held : Bool} {v : Value} {d : DataW H} {ps : List MemPlace} (hval : Value.okWide Try.prog W r b0 34 v)
    (h : DataW.Trod enc Try.prog W base sp held 34 v d ps) : ∃ x0 x1 x2 x3, v = .agg #[.int .u8 x0, .int .u8 x1, .int .u8 x2, .int .u8 x3] ∧ Byt [x0, x1, x2, x3] := by
  obtain ⟨cs, rfl, hsz⟩ : ∃ cs : Array Value, v = .agg cs ∧ cs.size = 4 := by
    simp only [Value.okWide, und34] at hval
    obtain ⟨cs, h1, h2, _⟩ := hval
    exact ⟨cs, h1, by rw [h2, cells34]⟩
  obtain ⟨l⟩ := cs
  match l, hsz with
  | [c0, c1, c2, c3], _ =>
    obtain ⟨fuel, hf⟩ := h
    obtain ⟨y0, y1, y2, y3, n, _, h0, h1, h2, h3⟩ := trod_array4 und34 cells5 hf
    obtain ⟨x0, e0, _, w0⟩ := DataW.trod_int und5 h0
    obtain ⟨x1, e1, _, w1⟩ := DataW.trod_int und5 h1
    obtain ⟨x2, e2, _, w2⟩ := DataW.trod_int und5 h2
    obtain ⟨x3, e3, _, w3⟩ := DataW.trod_int und5 h3
    simp only [List.cons.injEq, and_true] at e0 e1 e2 e3
    subst e0; subst e1; subst e2; subst e3
    exact ⟨x0, x1, x2, x3, rfl, byt4 w0 w1 w2 w3⟩

end Go.Proofs.Ytdhgdgcblgdefaa
