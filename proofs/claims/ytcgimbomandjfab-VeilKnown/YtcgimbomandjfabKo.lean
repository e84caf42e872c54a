/- What is kept of readers and rows while another reader is at work; a row of bytes that came in. -/
import Derived.Test.YtcgimbomandjfabAg
import Derived.Test.YtcgimbomandjfabKr
namespace Go.Proofs.Ytcgimbomandjfab
open Go.RowKit
variable {RB : Nat}
set_option linter.unusedVariables false

theorem Bs.ofNil (A : Nat → Prop) (w : World) : Bs A w (.slice none 0 0) [] := ⟨Byt.nil, by simp, Or.inl ⟨rfl, rfl⟩⟩

/-- A row of integers that came in: nil; or 'cap' cells, the numbers 'zs', of which the first 'len' are its elements; within the reach. -/
def IsRow (k : IntKind) (w : World) (a : Option Addr) (len cap : Nat) (zs : List Int) : Prop :=
  (a = none ∧ len = 0 ∧ cap = 0 ∧ zs = []) ∨
  ∃ x, a = some x ∧ len ≤ cap ∧ cap ≤ 140737488351232 ∧ zs.length = cap ∧ (∀ i, i < zs.length → w.cell? (x.add i) = some (.int k (zs.getD i 0))) ∧ ∀ n ∈ zs, (Lit.int k n).wf = true

/-- A row of bytes that came in: one that is read; or an empty one, wherever it lies. -/
def Bx (N : Nat) (w : World) (v : Value) (l : List Int) : Prop := Bs (fun b => b < N) w v l ∨ (l = [] ∧ ∃ x cap, v = .slice (some x) 0 cap)

theorem IsRow.bx {w : World} {a : Option Addr} {len cap : Nat} {zs : List Int} (h : IsRow .u8 w a len cap zs) : Bx w.heap.size w (.slice a len cap) (zs.take len) ∧ (zs.take len).length = len ∧ len ≤ 140737488351232 ∧ Byt (zs.take len) := by
  rcases h with ⟨rfl, rfl, rfl, rfl⟩ | ⟨x, rfl, hl, hm, hz, hcell, hwz⟩
  · exact ⟨Or.inl (Bs.ofNil _ _), rfl, by omega, Byt.nil⟩
  · have hlen : (zs.take len).length = len := by rw [List.length_take]; omega
    have hb : Byt (zs.take len) := by
      intro y hy
      have h1 := bounds_u8 (hwz y (List.mem_of_mem_take hy))
      omega
    refine ⟨?_, hlen, by omega, hb⟩
    by_cases h0 : len = 0
    · subst h0
      exact Or.inr ⟨rfl, x, cap, rfl⟩
    · obtain ⟨b, off, spot⟩ := x
      have hc := hcell 0 (by omega)
      have hspot : spot = none := by simpa [Addr.add] using World.cell?_spot hc
      subst hspot
      have hlt : b < w.heap.size := by
        have h2 : w.cell? ⟨b, off, none⟩ = some (.int .u8 (zs.getD 0 0)) := by simpa [Addr.add] using hc
        exact World.block_lt_of_cell? w ⟨b, off, none⟩ h2
      refine Or.inl ⟨hb, by omega, Or.inr ⟨b, off, cap, by rw [hlen], by omega, hlt, hlt, fun i hi => ?_⟩⟩
      rw [hlen] at hi
      have h3 := hcell i (by omega)
      rw [Addr.add_lit] at h3
      rw [h3]
      simp [hi]

theorem Bx.keep {N : Nat} {w w' : World} {v : Value} {l : List Int} (h : Bx N w v l) (k : Below w.heap.size w w') : Bx N w' v l := by
  rcases h with h | h
  · exact Or.inl (h.keepB k)
  · exact Or.inr h

theorem Bx.keepO {N : Nat} {w w' : World} {rb : Nat} {v : Value} {l : List Int} (h : Bx N w v l) (k : Kp (fun b => b = rb) w w') (hn : N ≤ rb) : Bx N w' v l := by
  rcases h with h | h
  · exact Or.inl (h.keepO k (fun b hb e => by omega))
  · exact Or.inr h

theorem New_bx {N : Nat} {w : World} {v : Value} {l : List Int} (h : Bx N w v l) : Calls Try.prog 11 #[v] w fun e w' => NewEnd w l e w' := by
  rcases h with h | ⟨rfl, x, cap, rfl⟩
  · exact New_any h
  · exact New_of (clone_emp w x cap)

theorem Bx.len {N : Nat} {w : World} {v : Value} {l : List Int} (h : Bx N w v l) : ∃ a cap, v = .slice a l.length cap := by
  rcases h with h | ⟨rfl, x, cap, rfl⟩
  · exact h.len
  · exact ⟨_, _, rfl⟩

end Go.Proofs.Ytcgimbomandjfab
