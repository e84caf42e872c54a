/- A policy handed in, with how long its slices are. -/
import Derived.Test.YtcigbfjmnhogiaaGreatDoorOp
import Derived.Test.YtcigbfjmnhogiaaGreatDoorPa
import Derived.Deep.Slices
import Derived.ChangeSame
import Derived.SizedLaws
import Derived.DataReads
import Derived.OpenShut
namespace Go.Proofs.YtcigbfjmnhogiaaGreatDoor
open Go.RowKit Go.ChangeShapes Go.WideShapes
set_option linter.unusedVariables false


section
variable {H : Type} {enc : TypeId × Value → H} {W : World} {base : Nat} {sp : Nat → Bool} {held : Bool}
/-- A slice of elements that came in. -/
theorem elsz_of {α : Type} {encA : α → List Value} {k : Nat} {Wf : α → Prop} {t e : TypeId} (hk : ∀ x, (encA x).length = k) (ht : Tryz.prog.underlying t = some (.slice e)) (he : Tryz.prog.cellsOf e = k) (hk0 : 0 < k)
    (hel : ∀ (fuel : Nat) (cs : List Value) (y : DataW H × List MemPlace), DataW.trod enc Tryz.prog W base sp held fuel e cs = some y → ∃ r : α, cs = encA r ∧ Wf r)
    {fuel : Nat} {v : Value} {x : DataW H × List MemPlace} (h : DataW.trod enc Tryz.prog W base sp held fuel t [v] = some x) (M : Nat) (hM : M ≤ 140737488355328) (hsz : ∀ ds es, x.1 = .slice ds es → ds.length ≤ M) :
    ∃ rs : List α, El encA k W v rs ∧ (∀ r ∈ rs, Wf r) ∧ rs.length ≤ M := by
  rcases Deep.open_slice ht h with ⟨hc, _⟩ | ⟨a, len, cap, m, n, D, Pl, hc, hb, hl, hm, hmm, rfl, hx⟩
  · simp only [List.cons.injEq, and_true] at hc
    subst hc
    exact ⟨[], Or.inl ⟨rfl, none, 0, rfl⟩, (fun r hr => by cases hr), Nat.zero_le _⟩
  · simp only [List.cons.injEq, and_true] at hc
    subst hc
    have hlm : len ≤ m := by rw [hmm]; split <;> omega
    have hlen := hsz _ _ rfl
    simp only [List.length_map, List.length_range] at hlen
    rw [he] at hx
    have each : ∀ i, i < len → ∃ r : α, W.cells? base (a.add (i * k)) k = some (encA r) ∧ Wf r := fun i hi => by
      obtain ⟨cs', h1, h2⟩ := hx i (by omega)
      obtain ⟨r, rfl, hw⟩ := hel _ _ _ h2
      exact ⟨r, h1, hw⟩
    by_cases h0 : len = 0
    · subst h0
      exact ⟨[], Or.inl ⟨rfl, _, _, rfl⟩, (fun r hr => by cases hr), Nat.zero_le _⟩
    · have : ∃ f : Nat → α, ∀ i, i < len → W.cells? base (a.add (i * k)) k = some (encA (f i)) ∧ Wf (f i) := by
        obtain ⟨r0, _⟩ := each 0 (by omega)
        exact ⟨fun i => if hi : i < len then Classical.choose (each i hi) else r0, fun i hi => by simp only [dif_pos hi]; exact Classical.choose_spec (each i hi)⟩
      obtain ⟨f, hf⟩ := this
      obtain ⟨b, off, spot⟩ := a
      have hcell : ∀ i, i < len → ∀ j, j < k → W.cell? (((⟨b, off, spot⟩ : Addr).add (i * k)).add j) = (encA (f i))[j]? := fun i hi j hj => (World.cells?_some (hf i hi).1).2.2 j hj
      have h00 := hcell 0 (by omega) 0 hk0
      rw [List.getElem?_eq_getElem (by rw [hk]; exact hk0)] at h00
      have hspot : spot = none := by simpa [Addr.add] using World.cell?_spot h00
      subst hspot
      refine ⟨(List.range len).map f, Or.inr ⟨b, off, cap, by simp, by simpa using hl, by simp; omega, ?_, fun j hj i u hu => ?_⟩, fun r hr => ?_, by simp; omega⟩
      · have hlt := World.block_lt_of_cell? W _ h00
        simpa [Addr.add] using hlt
      · have hj' : j < len := by simpa using hj
        have hfe : ((List.range len).map f)[j] = f j := by simp
        rw [hfe] at hu
        have hi : i < k := by
          have := (List.getElem?_eq_some_iff.1 hu).1
          rw [hk] at this
          exact this
        have h1 := hcell j hj' i hi
        rw [Addr.add_lit, Addr.add_lit] at h1
        rw [h1]
        exact hu
      · obtain ⟨i, hi, rfl⟩ := List.mem_map.1 hr
        exact (hf i (List.mem_range.1 hi)).2
end

set_option maxRecDepth 100000 in
set_option linter.constructorNameAsVariable false in
/-- A policy that came in. -/
theorem open_polz {H : Type} {enc : TypeId × Value → H} {W : World} {r : Reach} {b0 base : Nat} {sp : Nat → Bool} {held : Bool} {v : Value} {d : DataW H} {ps : List MemPlace} (hval : Value.okWide Tryz.prog W r b0 25 v)
    (h : DataW.Trod enc Tryz.prog W base sp held 25 v d ps) {ts : List TypeId} {ds : List (DataW H)} {j : Nat} (hs : (DataW.weightsEach Tryz.prog ts ds).all (· ≤ reachBytes) = true) (hj : ts[j]? = some 25) (hx : ds[j]? = some d) :
    ∃ a b rs qs, v = .agg #[a, b] ∧ El encR 3 W a rs ∧ El encQ 5 W b qs ∧ (∀ r ∈ rs, WfR r) ∧ (∀ r ∈ qs, WfQ r) ∧ rs.length * 32 ≤ 140737488355328 ∧ qs.length * 48 ≤ 140737488355328 := by
  obtain ⟨f0, f1, hf, t0, o0, t1, o1⟩ := flds25
  have u : Tryz.prog.underlying 25 = some (.struct #[f0, f1]) := by rw [und25, hf]
  obtain ⟨cs, rfl, hsz⟩ : ∃ cs : Array Value, v = .agg cs ∧ cs.size = 2 := by
    simp only [Value.okWide, u] at hval
    obtain ⟨cs, h1, h2, _⟩ := hval
    exact ⟨cs, h1, by rw [h2, lc25]⟩
  obtain ⟨l⟩ := cs
  match l, hsz with
  | [c0, c1], _ =>
    obtain ⟨fuel, hfu⟩ := h
    obtain ⟨y0, y1, n, hy, _, h0, h1⟩ := trod_struct2 u hfu
    rw [t0, o0, lc22] at h0
    rw [t1, o1, lc23] at h1
    have hd : d = .agg [y0.1, y1.1] := congrArg Prod.fst hy
    subst hd
    have hall : (DataW.weightsEach Tryz.prog [22, 23] [y0.1, y1.1]).all (· ≤ reachBytes) = true := by
      rw [List.all_eq_true]
      intro k hk
      refine List.all_eq_true.1 hs k (DataW.weights_mem_each hj hx k ?_)
      unfold DataW.weights
      simp only [u]
      simpa [t0, t1] using hk
    obtain ⟨rs, hr, hwr, hzr⟩ := elsz_of (encA := encR) (Wf := WfR) lenR usl22 lc54 (by omega) (fun _ _ _ h => rule_of h) h0 4398046511104 (by omega) (fun ds es hde => by
      have hw := sized_slice hall (j := 0) (t := 22) (e := 54) rfl (by rw [hde]; rfl) usl22
      rw [by54] at hw
      simp only [reachBytes] at hw
      omega)
    obtain ⟨qs, hq, hwq, hzq⟩ := elsz_of (encA := encQ) (Wf := WfQ) lenQ usl23 lc34 (by omega) (fun _ _ _ h => reader_of h) h1 2932031007402 (by omega) (fun ds es hde => by
      have hw := sized_slice hall (j := 1) (t := 23) (e := 34) rfl (by rw [hde]; rfl) usl23
      rw [by34] at hw
      simp only [reachBytes] at hw
      omega)
    exact ⟨c0, c1, rs, qs, rfl, hr, hq, hwr, hwq, by omega, by omega⟩

end Go.Proofs.YtcigbfjmnhogiaaGreatDoor
