/- Rows of bytes that came in, and their beginnings. -/
import Derived.Test.YtdhgdgcblgdefaaWo
import Derived.OpenShut
namespace Go.Proofs.Ytdhgdgcblgdefaa
open Go.RowKit
set_option linter.unusedVariables false

/-- A row of integers that came in: nil; or 'cap' cells, the numbers 'zs', of which the first 'len' are its elements; within the reach. -/
def IsRow (k : IntKind) (w : World) (a : Option Addr) (len cap : Nat) (zs : List Int) : Prop :=
  (a = none ∧ len = 0 ∧ cap = 0 ∧ zs = []) ∨
  ∃ x, a = some x ∧ len ≤ cap ∧ cap ≤ 140737488351232 ∧ zs.length = cap ∧ (∀ i, i < zs.length → w.cell? (x.add i) = some (.int k (zs.getD i 0))) ∧ ∀ n ∈ zs, (Lit.int k n).wf = true

theorem IsRow.cap {k : IntKind} {w : World} {a : Option Addr} {len cap : Nat} {zs : List Int} (h : IsRow k w a len cap zs) : len ≤ cap ∧ cap ≤ 140737488351232 ∧ zs.length = cap := by
  rcases h with ⟨rfl, rfl, rfl, rfl⟩ | ⟨x, rfl, hl, hm, hz, _⟩
  · exact ⟨Nat.le_refl _, by omega, rfl⟩
  · exact ⟨hl, hm, hz⟩

theorem IsRow.byt {w : World} {a : Option Addr} {len cap : Nat} {zs : List Int} (h : IsRow .u8 w a len cap zs) : Byt zs := by
  rcases h with ⟨rfl, rfl, rfl, rfl⟩ | ⟨x, rfl, hl, hm, hz, hcell, hwz⟩
  · exact Byt.nil
  · intro y hy
    have h1 := bounds_u8 (hwz y hy)
    omega

/-- Its first m bytes. -/
theorem IsRow.front {w : World} {a : Option Addr} {len cap : Nat} {zs : List Int} (h : IsRow .u8 w a len cap zs) (m : Nat) (hm : m ≤ len) :
    Bx w (.slice a m cap) (zs.take m) ∧ (zs.take m).length = m ∧ Byt (zs.take m) := by
  have hc := h.cap
  have hb := h.byt
  have hlen : (zs.take m).length = m := by rw [List.length_take]; omega
  refine ⟨?_, hlen, hb.take m⟩
  by_cases h0 : m = 0
  · subst h0
    exact Or.inr ⟨rfl, _, _, rfl⟩
  rcases h with ⟨rfl, rfl, rfl, rfl⟩ | ⟨x, rfl, hl, hmm, hz, hcell, hwz⟩
  · omega
  · obtain ⟨b, off, spot⟩ := x
    have hc0 := hcell 0 (by omega)
    have hspot : spot = none := by simpa [Addr.add] using World.cell?_spot hc0
    subst hspot
    have hlt : b < w.heap.size := by
      have h2 : w.cell? ⟨b, off, none⟩ = some (.int .u8 (zs.getD 0 0)) := by simpa [Addr.add] using hc0
      exact World.block_lt_of_cell? w ⟨b, off, none⟩ h2
    refine Or.inl ⟨hb.take m, by omega, Or.inr ⟨b, off, cap, by rw [hlen], by omega, trivial, hlt, fun i hi => ?_⟩⟩
    rw [hlen] at hi
    have h3 := hcell i (by omega)
    rw [Addr.add_lit] at h3
    rw [h3]
    simp [hi]

theorem Bx.len {w : World} {v : Value} {l : List Int} (h : Bx w v l) : ∃ a cap, v = .slice a l.length cap := by
  rcases h with h | ⟨rfl, x, cap, rfl⟩
  · exact h.len
  · exact ⟨_, _, rfl⟩

theorem Bx.some {w : World} {v : Value} {l : List Int} (h : Bx w v l) (h0 : l.length ≠ 0) : Bs (fun _ => True) w v l := by
  rcases h with h | ⟨rfl, x, cap, rfl⟩
  · exact h
  · exact absurd rfl h0

theorem eq_xx {w : World} {va vb : Value} {la lb : List Int} (ha : Bx w va la) (hb : Bx w vb lb) :
    Calls Try.prog 14 #[va, vb] w fun e w' => EqEnd w la lb e w' := by
  by_cases hn : la.length = lb.length
  · by_cases h0 : la.length = 0
    · obtain ⟨a, c, rfl⟩ := ha.len
      obtain ⟨b, d, rfl⟩ := hb.len
      have e1 : la = [] := List.length_eq_zero_iff.1 h0
      have e2 : lb = [] := List.length_eq_zero_iff.1 (by omega)
      subst e1; subst e2
      refine (eq_none a b c d w).mono ?_
      rintro e w' ⟨rfl, rfl⟩
      exact ⟨rfl, 0, rfl⟩
    · exact eq_any (ha.some h0) (hb.some (by omega))
  · obtain ⟨a, c, rfl⟩ := ha.len
    obtain ⟨b, d, rfl⟩ := hb.len
    refine (eq_len a b _ _ c d w hn).mono ?_
    rintro e w' ⟨rfl, rfl⟩
    exact ⟨by rw [decide_eq_false (fun h => hn (by rw [h]))], 0, rfl⟩

theorem eqx_same {w : World} {va vb : Value} {l : List Int} (ha : Bx w va l) (hb : Bx w vb l) :
    Calls Try.prog 14 #[va, vb] w fun e w' => e = .returned (.bool true) ∧ ∃ m, w' = w.drewN m := by
  refine (eq_xx ha hb).mono ?_
  rintro e w' ⟨rfl, m, rfl⟩
  exact ⟨by rw [decide_eq_true rfl], m, rfl⟩

theorem Bx.drewN {w : World} {v : Value} {l : List Int} (h : Bx w v l) (n : Nat) : Bx (w.drewN n) v l := h.keep ⟨rfl, rfl, rfl, Nat.le_refl _, fun _ _ => rfl⟩

theorem copyB {w : World} {v : Value} {l : List Int} (h : Bx w v l) (hl : Byt l) (n : Nat) (hn : l.length = n) (hb : n ≤ 140737488355328) :
    Calls Try.prog 9 #[v] w fun e w' => ∃ a cap, e = .returned (.slice a n cap) ∧ Ow w.heap.size w' (.slice a n cap) l ∧ Below w.heap.size w w' := by
  subst hn
  exact copy_any h hl hb

end Go.Proofs.Ytdhgdgcblgdefaa
