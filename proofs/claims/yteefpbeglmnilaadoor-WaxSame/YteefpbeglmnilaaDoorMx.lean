/- A list of rows of bytes that came in. -/
import Derived.Test.YteefpbeglmnilaaDoorLb
import Derived.Deep.Matrix
import Derived.SizedLaws
namespace Go.Proofs.YteefpbeglmnilaaDoor
open Go.RowKit Go.ChangeShapes
set_option linter.unusedVariables false

/-- A list of rows that came in: row r lies at A r, has L r bytes of C r, which are Z r. -/
def IsRows (w : World) (a : Option Addr) (len cap : Nat) (A : Nat → Option Addr) (L C : Nat → Nat) (Z : Nat → List Int) : Prop :=
  len ≤ cap ∧ cap ≤ 5864062014634 ∧ (len = 0 ∨ ∃ b off, a = some ⟨b, off, none⟩ ∧ b < w.heap.size ∧ ∀ r, r < len → w.cell? ⟨b, off + r, none⟩ = some (.slice (A r) (L r) (C r)) ∧ IsRow .u8 w (A r) (L r) (C r) (Z r))

theorem weightsAll_mem {H : Type} {P : Program} {e : TypeId} : ∀ {l : List (DataW H)} {d : DataW H}, d ∈ l → ∀ n ∈ d.weights P e, n ∈ DataW.weightsAll P e l
  | x :: l, d, hd, n, hn => by
    rw [DataW.weightsAll]
    rcases List.mem_cons.1 hd with rfl | h
    · exact List.mem_append_left _ hn
    · exact List.mem_append_right _ (weightsAll_mem h n hn)

/-- How much a row that lies in a list weighs. -/
theorem sized_inner {H : Type} {P : Program} {ts : List TypeId} {ds : List (DataW H)} (h : (DataW.weightsEach P ts ds).all (· ≤ reachBytes) = true) {j : Nat} {t e q : TypeId} {elems spare es sp : List (DataW H)} (ht : ts[j]? = some t) (hd : ds[j]? = some (.slice elems spare)) (hu : P.underlying t = some (.slice e)) (hq : P.underlying e = some (.slice q)) (hm : .slice es sp ∈ elems) :
    (es.length + sp.length) * P.bytesOf q ≤ reachBytes := by
  have h1 : (es.length + sp.length) * P.bytesOf q ∈ (DataW.slice es sp).weights P e := by simp [DataW.weights, hq]
  have h2 := weightsAll_mem hm _ h1
  have := List.all_eq_true.1 h _ (DataW.weights_mem_each ht hd ((es.length + sp.length) * P.bytesOf q) (by simp [DataW.weights, hu, h2]))
  simpa using this

/-- From the walk over the argument to its rows. -/
theorem isRows_of {H : Type} {enc : TypeId × Value → H} {P : Program} {w : World} {held : Bool} {t e q : TypeId} {fuel : Nat} {a : Option Addr} {len cap : Nat} {x : DataW H × List MemPlace} (ht : P.underlying t = some (.slice e)) (he : P.underlying e = some (.slice q)) (hq : P.underlying q = some (.int .u8))
    (ce : P.cellsOf e = 1) (cq : P.cellsOf q = 1) (be : P.bytesOf e = 24) (bq : P.bytesOf q = 1) (h : DataW.trod enc P w 0 (fun _ => true) held fuel t [.slice a len cap] = some x)
    {ts : List TypeId} {ds : List (DataW H)} {j : Nat} (hs : (DataW.weightsEach P ts ds).all (· ≤ reachBytes) = true) (hj : ts[j]? = some t) (hx : ds[j]? = some x.1) :
    ∃ A L C Z, IsRows w a len cap A L C Z := by
  rcases Go.Deep.open_int_rows ht he hq ce cq h with ⟨hcs, _⟩ | ⟨y, l, c, A, L, C, Z, hcs, _, hl, hm, hdx, hrows⟩
  · simp only [List.cons.injEq, Value.slice.injEq, and_true] at hcs
    obtain ⟨rfl, rfl, rfl⟩ := hcs
    exact ⟨fun _ => none, fun _ => 0, fun _ => 0, fun _ => [], Nat.le_refl _, by omega, Or.inl rfl⟩
  · simp only [List.cons.injEq, Value.slice.injEq, and_true] at hcs
    obtain ⟨rfl, rfl, rfl⟩ := hcs
    rw [hdx] at hx
    have hw := sized_slice hs hj hx ht
    rw [be] at hw
    simp only [List.length_map, List.length_range, reachBytes] at hw
    refine ⟨A, L, C, Z, hl, by omega, ?_⟩
    by_cases h0 : len = 0
    · exact Or.inl h0
    · obtain ⟨b, off, spot⟩ := y
      have hspot : spot = none := by simpa [Addr.add] using World.cell?_spot (hrows 0 (by omega)).1
      subst hspot
      have c0 := (hrows 0 (by omega)).1
      refine Or.inr ⟨b, off, rfl, ?_, fun r hr => ?_⟩
      · have h2 : w.cell? ⟨b, off, none⟩ = some (.slice (A 0) (L 0) (C 0)) := by simpa [Addr.add] using c0
        exact World.block_lt_of_cell? w ⟨b, off, none⟩ h2
      · obtain ⟨e1, e2, e3, e4, e5, e6, e7⟩ := hrows r (by omega)
        rw [Addr.add_lit] at e1
        refine ⟨e1, ?_⟩
        cases hA : A r with
        | none =>
          have hC := e6 hA
          have hZ : Z r = [] := List.length_eq_zero_iff.1 (by omega)
          exact Or.inl ⟨rfl, by omega, hC, hZ⟩
        | some a' =>
          have hin : DataW.slice (H := H) (lits .u8 ((Z r).take (L r))) (lits .u8 ((Z r).drop (L r))) ∈ (List.range len).map fun r => Go.Deep.intRow .u8 (A r) (L r) (Z r) := by
            refine List.mem_map.2 ⟨r, List.mem_range.2 hr, ?_⟩
            simp only [hA, Go.Deep.intRow]
          have h2 := sized_inner hs hj hx ht he hin
          rw [bq] at h2
          simp only [lits, List.length_map, List.length_take, List.length_drop, reachBytes] at h2
          refine Or.inr ⟨a', rfl, e2, by omega, e4, fun i hi => (e7 a' hA).2 i (by omega), e5⟩

/-- The first m bytes of row r. -/
theorem IsRows.row {w : World} {a : Option Addr} {len cap : Nat} {A : Nat → Option Addr} {L C : Nat → Nat} {Z : Nat → List Int} (h : IsRows w a len cap A L C Z) (r : Nat) (hr : r < len) :
    ∃ b off, a = some ⟨b, off, none⟩ ∧ b < w.heap.size ∧ w.cell? ⟨b, off + r, none⟩ = some (.slice (A r) (L r) (C r)) ∧ IsRow .u8 w (A r) (L r) (C r) (Z r) := by
  obtain ⟨_, _, h0 | ⟨b, off, e1, e2, e3⟩⟩ := h
  · omega
  · exact ⟨b, off, e1, e2, e3 r hr⟩

end Go.Proofs.YteefpbeglmnilaaDoor
