/- Lists of labels that came in. -/
import Derived.Test.YtcgimbomandjfaaLw
import Derived.Test.YtcgimbomandjfaaDc
import Derived.Deep.SlicePairs
import Derived.SizedLaws
namespace Go.Proofs.Ytcgimbomandjfaa
open Go.RowKit Go.ChangeShapes Go.WideShapes
set_option linter.unusedVariables false

theorem und25 : Try.prog.underlying 25 = some (.slice 24) := by kernel_rfl
theorem bytes24 : Try.prog.bytesOf 24 = 16 := by kernel_rfl

def toI : Value → Int
  | .int _ n => n
  | _ => 0

theorem labs_of {H : Type} {enc : TypeId × Value → H} {W : World} {sp : Nat → Bool} {fuel : Nat} {a : Option Addr} {len cap : Nat} {d : DataW H} {ps : List MemPlace}
    (h : DataW.trod enc Try.prog W 0 sp true fuel 25 (Value.slice a len cap).cells.toList = some (d, ps))
    (hsz : ∀ ds es, d = .slice ds es → (ds.length + es.length) * 16 ≤ reachBytes) : ∃ ls, Ls W (.slice a len cap) ls ∧ Regs ls := by
  obtain ⟨f0, f1, hf, t0, o0, t1, o1⟩ := fields24
  have u : Try.prog.underlying 24 = some (.struct #[f0, f1]) := by rw [und24, hf]
  have hcs : (Value.slice a len cap).cells.toList = [.slice a len cap] := rfl
  rw [hcs] at h
  rcases Deep.open_slice_pairs und25 u lcells24 o0 o1 (by rw [t0]; exact lcells3) (by rw [t1]; exact lcells22) h with ⟨e, _⟩ | ⟨x, l, c, m, n, V0, V1, D0, D1, P0, P1, e, _, hl, hm, hmm, hx, hc⟩
  · injection e with e _
    injection e with e1 e2 e3
    subst e1 e2 e3
    exact ⟨[], Or.inl ⟨rfl, _, _, rfl⟩, fun l hl => by cases hl⟩
  · injection e with e _
    injection e with e1 e2 e3
    subst e1 e2 e3
    have hlm : len ≤ m := by rw [hmm]; split <;> omega
    have hd : d = _ := congrArg Prod.fst hx
    have hb := hsz _ _ hd
    simp only [List.length_map, List.length_range, reachBytes] at hb
    have each : ∀ i, i < len → V0 i = .int .i64 (toI (V0 i)) ∧ V1 i = .int .u32 (toI (V1 i)) ∧ ∃ P : BitVec 32, toI (V1 i) = (P.toNat : Int) := by
      intro i hi
      obtain ⟨_, _, g0, g1⟩ := hc i (by omega)
      rw [t0] at g0
      rw [t1] at g1
      obtain ⟨x0, e0, _, w0⟩ := DataW.trod_int Try.underlying3 g0
      obtain ⟨x1, e1, _, w1⟩ := DataW.trod_int Try.underlying22 g1
      simp at e0 e1
      rw [e0, e1]
      exact ⟨rfl, rfl, (lab_wf (x := 0) ⟨by decide, w1⟩).2⟩
    refine ⟨(List.range len).map fun i => (toI (V0 i), toI (V1 i)), ?_, ?_⟩
    · by_cases h0 : len = 0
      · subst h0
        exact Or.inl ⟨rfl, _, _, rfl⟩
      · obtain ⟨b, off, spot⟩ := x
        have hc0 := (hc 0 (by omega)).1
        have hspot : spot = none := by simpa [Addr.add] using World.cell?_spot hc0
        subst hspot
        refine Or.inr ⟨b, off, cap, by simp, by simpa using hl, by simp; omega, ?_, fun i hi => ?_⟩
        · have h2 : W.cell? ⟨b, off, none⟩ = some (V0 0) := by simpa [Addr.add] using hc0
          exact World.block_lt_of_cell? W ⟨b, off, none⟩ h2
        · simp only [List.length_map, List.length_range] at hi
          obtain ⟨k0, k1, _, _⟩ := hc i (by omega)
          obtain ⟨e0, e1, _⟩ := each i hi
          rw [e0, Addr.add_lit] at k0
          rw [e1, Addr.add_lit] at k1
          rw [List.getD_eq_getElem?_getD, List.getElem?_map, List.getElem?_range hi]
          exact ⟨k0, k1⟩
    · intro l hl
      obtain ⟨i, hi, rfl⟩ := List.mem_map.1 hl
      exact (each i (List.mem_range.1 hi)).2.2

end Go.Proofs.Ytcgimbomandjfaa
