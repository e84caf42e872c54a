/- Policies that came in. -/
import Derived.Test.YtcigbfjmnhogiaaGreatDoorPa
import Derived.Deep.Slices
import Derived.ChangeSame
import Derived.SizedLaws
import Derived.DataReads
import Derived.OpenShut
namespace Go.Proofs.YtcigbfjmnhogiaaGreatDoor
open Go.RowKit Go.ChangeShapes Go.WideShapes
set_option linter.unusedVariables false


theorem lc3 : Tryz.prog.cellsOf 3 = 1 := by kernel_rfl
theorem lc30 : Tryz.prog.cellsOf 30 = 1 := by kernel_rfl
theorem lc9 : Tryz.prog.cellsOf 9 = 1 := by kernel_rfl
theorem lc32 : Tryz.prog.cellsOf 32 = 2 := by kernel_rfl
theorem lc54 : Tryz.prog.cellsOf 54 = 3 := by kernel_rfl
theorem lc34 : Tryz.prog.cellsOf 34 = 5 := by kernel_rfl
theorem lc25 : Tryz.prog.cellsOf 25 = 2 := by kernel_rfl
theorem lc22 : Tryz.prog.cellsOf 22 = 1 := by kernel_rfl
theorem lc23 : Tryz.prog.cellsOf 23 = 1 := by kernel_rfl
theorem by54 : Tryz.prog.bytesOf 54 = 32 := by kernel_rfl
theorem by34 : Tryz.prog.bytesOf 34 = 48 := by kernel_rfl
theorem usl22 : Tryz.prog.underlying 22 = some (.slice 54) := by kernel_rfl
theorem usl23 : Tryz.prog.underlying 23 = some (.slice 34) := by kernel_rfl
theorem flds32 : ∃ f0 f1 : Field, Tryz.prog.fieldsOf 32 = #[f0, f1] ∧ f0.type = 3 ∧ f0.offset = 0 ∧ f1.type = 30 ∧ f1.offset = 1 := ⟨(Tryz.prog.fieldsOf 32)[0]!, (Tryz.prog.fieldsOf 32)[1]!, by kernel_rfl, by kernel_rfl, by kernel_rfl, by kernel_rfl, by kernel_rfl⟩
theorem flds54 : ∃ f0 f1 : Field, Tryz.prog.fieldsOf 54 = #[f0, f1] ∧ f0.type = 9 ∧ f0.offset = 0 ∧ f1.type = 32 ∧ f1.offset = 1 := ⟨(Tryz.prog.fieldsOf 54)[0]!, (Tryz.prog.fieldsOf 54)[1]!, by kernel_rfl, by kernel_rfl, by kernel_rfl, by kernel_rfl, by kernel_rfl⟩
theorem flds25 : ∃ f0 f1 : Field, Tryz.prog.fieldsOf 25 = #[f0, f1] ∧ f0.type = 22 ∧ f0.offset = 0 ∧ f1.type = 23 ∧ f1.offset = 1 := ⟨(Tryz.prog.fieldsOf 25)[0]!, (Tryz.prog.fieldsOf 25)[1]!, by kernel_rfl, by kernel_rfl, by kernel_rfl, by kernel_rfl, by kernel_rfl⟩
theorem flds34 : ∃ f0 f1 f2 f3 : Field, Tryz.prog.fieldsOf 34 = #[f0, f1, f2, f3] ∧ f0.type = 9 ∧ f0.offset = 0 ∧ f1.type = 32 ∧ f1.offset = 1 ∧ f2.type = 3 ∧ f2.offset = 3 ∧ f3.type = 3 ∧ f3.offset = 4 := ⟨(Tryz.prog.fieldsOf 34)[0]!, (Tryz.prog.fieldsOf 34)[1]!, (Tryz.prog.fieldsOf 34)[2]!, (Tryz.prog.fieldsOf 34)[3]!, by kernel_rfl, by kernel_rfl, by kernel_rfl, by kernel_rfl, by kernel_rfl, by kernel_rfl, by kernel_rfl, by kernel_rfl, by kernel_rfl⟩

section
variable {H : Type} {enc : TypeId × Value → H} {W : World} {base : Nat} {sp : Nat → Bool} {held : Bool}

/-- What any rule, any reader that came in has. -/
def WfR (r : RuleD) : Prop := r.1.size ≤ maxLen ∧ (Lit.int .i64 r.2.1).wf = true ∧ (Lit.int .u32 r.2.2).wf = true
def WfQ (r : ReaderD) : Prop := r.1.size ≤ maxLen ∧ (Lit.int .i64 r.2.1).wf = true ∧ (Lit.int .u32 r.2.2.1).wf = true ∧ (Lit.int .i64 r.2.2.2.1).wf = true ∧ (Lit.int .i64 r.2.2.2.2).wf = true

set_option maxRecDepth 100000 in
theorem lab_of {fuel : Nat} {cs : List Value} {y : DataW H × List MemPlace} (h : DataW.trod enc Tryz.prog W base sp held fuel 32 cs = some y) : ∃ x p, cs = [.int .i64 x, .int .u32 p] ∧ (Lit.int .i64 x).wf = true ∧ (Lit.int .u32 p).wf = true := by
  obtain ⟨f0, f1, hf, t0, o0, t1, o1⟩ := flds32
  have u : Tryz.prog.underlying 32 = some (.struct #[f0, f1]) := by rw [und24, hf]
  obtain ⟨y0, y1, n, _, hl, h0, h1⟩ := trod_struct2 u h
  rw [t0, o0, lc3] at h0
  rw [t1, o1, lc30] at h1
  rw [lc32] at hl
  obtain ⟨x, e0, _, w0⟩ := DataW.trod_int Tryz.underlying3 h0
  obtain ⟨p, e1, _, w1⟩ := DataW.trod_int Tryz.underlying30 h1
  match cs, hl with
  | [c0, c1], _ =>
    simp at e0 e1
    subst e0 e1
    exact ⟨x, p, rfl, w0, w1⟩
set_option maxRecDepth 100000 in
theorem rule_of {fuel : Nat} {cs : List Value} {y : DataW H × List MemPlace} (h : DataW.trod enc Tryz.prog W base sp held fuel 54 cs = some y) : ∃ r : RuleD, cs = encR r ∧ WfR r := by
  obtain ⟨f0, f1, hf, t0, o0, t1, o1⟩ := flds54
  have u : Tryz.prog.underlying 54 = some (.struct #[f0, f1]) := by rw [und54, hf]
  obtain ⟨y0, y1, n, _, hl, h0, h1⟩ := trod_struct2 u h
  rw [t0, o0, lc9] at h0
  rw [t1, o1, lc32] at h1
  rw [lc54] at hl
  obtain ⟨s, e0, _, w0⟩ := DataW.trod_string Tryz.underlying9 h0
  obtain ⟨x, p, e1, w1, w2⟩ := lab_of h1
  match cs, hl with
  | [c0, c1, c2], _ =>
    simp at e0 e1
    obtain ⟨e1, e2⟩ := e1
    subst e0 e1 e2
    exact ⟨(s, x, p), rfl, w0, w1, w2⟩
set_option maxRecDepth 100000 in
theorem reader_of {fuel : Nat} {cs : List Value} {y : DataW H × List MemPlace} (h : DataW.trod enc Tryz.prog W base sp held fuel 34 cs = some y) : ∃ r : ReaderD, cs = encQ r ∧ WfQ r := by
  obtain ⟨f0, f1, f2, f3, hf, t0, o0, t1, o1, t2, o2, t3, o3⟩ := flds34
  have u : Tryz.prog.underlying 34 = some (.struct #[f0, f1, f2, f3]) := by rw [und34, hf]
  obtain ⟨xs, n, _, _, hl, hlen, hff⟩ := DataW.trod_struct u h
  have h0 := hff 0 f0 rfl
  have h1 := hff 1 f1 rfl
  have h2 := hff 2 f2 rfl
  have h3 := hff 3 f3 rfl
  match xs, hlen with
  | [y0, y1, y2, y3], _ =>
    simp only [List.getElem?_cons_zero, List.getElem?_cons_succ] at h0 h1 h2 h3
    rw [t0, o0, lc9] at h0
    rw [t1, o1, lc32] at h1
    rw [t2, o2, lc3] at h2
    rw [t3, o3, lc3] at h3
    rw [lc34] at hl
    obtain ⟨s, e0, _, w0⟩ := DataW.trod_string Tryz.underlying9 h0
    obtain ⟨x, p, e1, w1, w2⟩ := lab_of h1
    obtain ⟨k, e2, _, w3⟩ := DataW.trod_int Tryz.underlying3 h2
    obtain ⟨b, e3, _, w4⟩ := DataW.trod_int Tryz.underlying3 h3
    match cs, hl with
    | [c0, c1, c2, c3, c4], _ =>
      simp at e0 e1 e2 e3
      obtain ⟨e1, e1'⟩ := e1
      subst e0 e1 e1' e2 e3
      exact ⟨(s, x, p, k, b), rfl, w0, w1, w2, w3, w4⟩

/-- A slice of elements that came in. -/
theorem els_of {α : Type} {encA : α → List Value} {k : Nat} {Wf : α → Prop} {t e : TypeId} (hk : ∀ x, (encA x).length = k) (ht : Tryz.prog.underlying t = some (.slice e)) (he : Tryz.prog.cellsOf e = k) (hk0 : 0 < k)
    (hel : ∀ (fuel : Nat) (cs : List Value) (y : DataW H × List MemPlace), DataW.trod enc Tryz.prog W base sp held fuel e cs = some y → ∃ r : α, cs = encA r ∧ Wf r)
    {fuel : Nat} {v : Value} {x : DataW H × List MemPlace} (h : DataW.trod enc Tryz.prog W base sp held fuel t [v] = some x) (hsz : ∀ ds es, x.1 = .slice ds es → ds.length ≤ 140737488355328) :
    ∃ rs : List α, El encA k W v rs ∧ ∀ r ∈ rs, Wf r := by
  rcases Deep.open_slice ht h with ⟨hc, _⟩ | ⟨a, len, cap, m, n, D, Pl, hc, hb, hl, hm, hmm, rfl, hx⟩
  · simp only [List.cons.injEq, and_true] at hc
    subst hc
    exact ⟨[], Or.inl ⟨rfl, none, 0, rfl⟩, fun r hr => by cases hr⟩
  · simp only [List.cons.injEq, and_true] at hc
    subst hc
    have hlm : len ≤ m := by rw [hmm]; split <;> omega
    have hlen := hsz _ _ rfl
    simp only [List.length_map, List.length_range] at hlen
    rw [he] at hx
    have each : ∀ i, i < len → ∃ r : α, W.cells? base (a.add (i * k)) k = some (encA r) ∧ Wf r := fun i hi => by
      obtain ⟨cs', h1, h2⟩ := hx i (by omega)
      obtain ⟨r, rfl, hw⟩ := hel _ _ _ h2
      exact ⟨r, h1, hw⟩
    by_cases h0 : len = 0
    · subst h0
      exact ⟨[], Or.inl ⟨rfl, _, _, rfl⟩, fun r hr => by cases hr⟩
    · have : ∃ f : Nat → α, ∀ i, i < len → W.cells? base (a.add (i * k)) k = some (encA (f i)) ∧ Wf (f i) := by
        obtain ⟨r0, _⟩ := each 0 (by omega)
        exact ⟨fun i => if hi : i < len then Classical.choose (each i hi) else r0, fun i hi => by simp only [dif_pos hi]; exact Classical.choose_spec (each i hi)⟩
      obtain ⟨f, hf⟩ := this
      obtain ⟨b, off, spot⟩ := a
      have hcell : ∀ i, i < len → ∀ j, j < k → W.cell? (((⟨b, off, spot⟩ : Addr).add (i * k)).add j) = (encA (f i))[j]? := fun i hi j hj => (World.cells?_some (hf i hi).1).2.2 j hj
      have h00 := hcell 0 (by omega) 0 hk0
      rw [List.getElem?_eq_getElem (by rw [hk]; exact hk0)] at h00
      have hspot : spot = none := by simpa [Addr.add] using World.cell?_spot h00
      subst hspot
      refine ⟨(List.range len).map f, Or.inr ⟨b, off, cap, by simp, by simpa using hl, by simpa using hlen, ?_, fun j hj i u hu => ?_⟩, fun r hr => ?_⟩
      · have hlt := World.block_lt_of_cell? W _ h00
        simpa [Addr.add] using hlt
      · have hj' : j < len := by simpa using hj
        have hfe : ((List.range len).map f)[j] = f j := by simp
        rw [hfe] at hu
        have hi : i < k := by
          have := (List.getElem?_eq_some_iff.1 hu).1
          rw [hk] at this
          exact this
        have h1 := hcell j hj' i hi
        rw [Addr.add_lit, Addr.add_lit] at h1
        rw [h1]
        exact hu
      · obtain ⟨i, hi, rfl⟩ := List.mem_map.1 hr
        exact (hf i (List.mem_range.1 hi)).2
end

set_option maxRecDepth 100000 in
set_option linter.constructorNameAsVariable false in
/-- A policy that came in. -/
theorem open_pol {H : Type} {enc : TypeId × Value → H} {W : World} {r : Reach} {b0 base : Nat} {sp : Nat → Bool} {held : Bool} {v : Value} {d : DataW H} {ps : List MemPlace} (hval : Value.okWide Tryz.prog W r b0 25 v)
    (h : DataW.Trod enc Tryz.prog W base sp held 25 v d ps) {ts : List TypeId} {ds : List (DataW H)} {j : Nat} (hs : (DataW.weightsEach Tryz.prog ts ds).all (· ≤ reachBytes) = true) (hj : ts[j]? = some 25) (hx : ds[j]? = some d) :
    ∃ a b rs qs, v = .agg #[a, b] ∧ El encR 3 W a rs ∧ El encQ 5 W b qs ∧ (∀ r ∈ rs, WfR r) ∧ ∀ r ∈ qs, WfQ r := by
  obtain ⟨f0, f1, hf, t0, o0, t1, o1⟩ := flds25
  have u : Tryz.prog.underlying 25 = some (.struct #[f0, f1]) := by rw [und25, hf]
  obtain ⟨cs, rfl, hsz⟩ : ∃ cs : Array Value, v = .agg cs ∧ cs.size = 2 := by
    simp only [Value.okWide, u] at hval
    obtain ⟨cs, h1, h2, _⟩ := hval
    exact ⟨cs, h1, by rw [h2, lc25]⟩
  obtain ⟨l⟩ := cs
  match l, hsz with
  | [c0, c1], _ =>
    obtain ⟨fuel, hfu⟩ := h
    obtain ⟨y0, y1, n, hy, _, h0, h1⟩ := trod_struct2 u hfu
    rw [t0, o0, lc22] at h0
    rw [t1, o1, lc23] at h1
    have hd : d = .agg [y0.1, y1.1] := congrArg Prod.fst hy
    subst hd
    have hall : (DataW.weightsEach Tryz.prog [22, 23] [y0.1, y1.1]).all (· ≤ reachBytes) = true := by
      rw [List.all_eq_true]
      intro k hk
      refine List.all_eq_true.1 hs k (DataW.weights_mem_each hj hx k ?_)
      unfold DataW.weights
      simp only [u]
      simpa [t0, t1] using hk
    obtain ⟨rs, hr, hwr⟩ := els_of (encA := encR) (Wf := WfR) lenR usl22 lc54 (by omega) (fun _ _ _ h => rule_of h) h0 (fun ds es hde => by
      have hw := sized_slice hall (j := 0) (t := 22) (e := 54) rfl (by rw [hde]; rfl) usl22
      rw [by54] at hw
      simp only [reachBytes] at hw
      omega)
    obtain ⟨qs, hq, hwq⟩ := els_of (encA := encQ) (Wf := WfQ) lenQ usl23 lc34 (by omega) (fun _ _ _ h => reader_of h) h1 (fun ds es hde => by
      have hw := sized_slice hall (j := 1) (t := 23) (e := 34) rfl (by rw [hde]; rfl) usl23
      rw [by34] at hw
      simp only [reachBytes] at hw
      omega)
    exact ⟨c0, c1, rs, qs, rfl, hr, hq, hwr, hwq⟩

end Go.Proofs.YtcigbfjmnhogiaaGreatDoor
