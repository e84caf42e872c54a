/- Values and lists of attributes that came in. -/
import Derived.Test.YtibnjhnecfcimaaLo
import Derived.Test.YtibnjhnecfcimaaTka
import Derived.Deep.Slices
import Derived.ChangeSame
import Derived.SizedLaws
import Derived.DataReads
import Derived.OpenShut
namespace Go.Proofs.Ytibnjhnecfcimaa
open Go.RowKit Go.ChangeShapes Go.WideShapes
set_option linter.unusedVariables false

theorem lc9 : Try.prog.cellsOf 9 = 1 := by kernel_rfl
theorem lc23 : Try.prog.cellsOf 23 = 3 := by kernel_rfl
theorem lc35 : Try.prog.cellsOf 35 = 6 := by kernel_rfl
theorem by35 : Try.prog.bytesOf 35 = 64 := by kernel_rfl
theorem flds23 : ∃ f0 f1 f2 : Field, Try.prog.fieldsOf 23 = #[f0, f1, f2] ∧ f0.type = 3 ∧ f0.offset = 0 ∧ f1.type = 3 ∧ f1.offset = 1 ∧ f2.type = 9 ∧ f2.offset = 2 := ⟨(Try.prog.fieldsOf 23)[0]!, (Try.prog.fieldsOf 23)[1]!, (Try.prog.fieldsOf 23)[2]!, by kernel_rfl, by kernel_rfl, by kernel_rfl, by kernel_rfl, by kernel_rfl, by kernel_rfl, by kernel_rfl⟩
theorem flds35 : ∃ f0 f1 f2 : Field, Try.prog.fieldsOf 35 = #[f0, f1, f2] ∧ f0.type = 9 ∧ f0.offset = 0 ∧ f1.type = 33 ∧ f1.offset = 1 ∧ f2.type = 23 ∧ f2.offset = 3 := ⟨(Try.prog.fieldsOf 35)[0]!, (Try.prog.fieldsOf 35)[1]!, (Try.prog.fieldsOf 35)[2]!, by kernel_rfl, by kernel_rfl, by kernel_rfl, by kernel_rfl, by kernel_rfl, by kernel_rfl, by kernel_rfl⟩

/-- What any value, any attribute that came in has. -/
def WfVal (v : ValD) : Prop := (Lit.int .i64 v.1).wf = true ∧ (Lit.int .i64 v.2.1).wf = true ∧ v.2.2.size ≤ maxLen
def WfAtt (a : AttrD) : Prop := a.1.size ≤ maxLen ∧ (Lit.int .i64 a.2.1).wf = true ∧ (Lit.int .u32 a.2.2.1).wf = true ∧ WfVal a.2.2.2
theorem u32_wf {p : Int} (h : (Lit.int .u32 p).wf = true) : 0 ≤ p ∧ p ≤ 4294967295 := by
  simp only [Lit.wf, Bool.and_eq_true, decide_eq_true_eq] at h
  have a3 : IntKind.u32.min = 0 := rfl
  have a4 : IntKind.u32.max = 4294967295 := rfl
  rw [a3, a4] at h
  exact h
theorem WfAtt.wf {a : AttrD} (h : WfAtt a) : WfA a := by
  have h3 := h.2.2.1
  exact u32_wf h3

section
variable {H : Type} {enc : TypeId × Value → H} {W : World} {base : Nat} {sp : Nat → Bool} {held : Bool}

set_option maxRecDepth 100000 in
theorem lab_of {fuel : Nat} {cs : List Value} {y : DataW H × List MemPlace} (h : DataW.trod enc Try.prog W base sp held fuel 33 cs = some y) : ∃ x p, cs = [.int .i64 x, .int .u32 p] ∧ (Lit.int .i64 x).wf = true ∧ (Lit.int .u32 p).wf = true := by
  obtain ⟨f0, f1, hf, t0, o0, t1, o1⟩ := fields24
  have u : Try.prog.underlying 33 = some (.struct #[f0, f1]) := by rw [und24, hf]
  obtain ⟨y0, y1, n, _, hl, h0, h1⟩ := trod_struct2 u h
  rw [t0, o0, lcells3] at h0
  rw [t1, o1, lcells22] at h1
  rw [lcells24] at hl
  obtain ⟨x, e0, _, w0⟩ := DataW.trod_int Try.underlying3 h0
  obtain ⟨p, e1, _, w1⟩ := DataW.trod_int Try.underlying31 h1
  match cs, hl with
  | [c0, c1], _ =>
    simp at e0 e1
    subst e0 e1
    exact ⟨x, p, rfl, w0, w1⟩
set_option maxRecDepth 100000 in
theorem val_of {fuel : Nat} {cs : List Value} {y : DataW H × List MemPlace} (h : DataW.trod enc Try.prog W base sp held fuel 23 cs = some y) : ∃ v : ValD, cs = [.int .i64 v.1, .int .i64 v.2.1, .string v.2.2] ∧ WfVal v := by
  obtain ⟨f0, f1, f2, hf, t0, o0, t1, o1, t2, o2⟩ := flds23
  have u : Try.prog.underlying 23 = some (.struct #[f0, f1, f2]) := by rw [und23, hf]
  obtain ⟨xs, n, _, _, hl, hlen, hff⟩ := DataW.trod_struct u h
  have h0 := hff 0 f0 rfl
  have h1 := hff 1 f1 rfl
  have h2 := hff 2 f2 rfl
  match xs, hlen with
  | [y0, y1, y2], _ =>
    simp only [List.getElem?_cons_zero, List.getElem?_cons_succ] at h0 h1 h2
    rw [t0, o0, lcells3] at h0
    rw [t1, o1, lcells3] at h1
    rw [t2, o2, lc9] at h2
    rw [lc23] at hl
    obtain ⟨k, e0, _, w0⟩ := DataW.trod_int Try.underlying3 h0
    obtain ⟨n, e1, _, w1⟩ := DataW.trod_int Try.underlying3 h1
    obtain ⟨s, e2, _, w2⟩ := DataW.trod_string Try.underlying9 h2
    match cs, hl with
    | [c0, c1, c2], _ =>
      simp at e0 e1 e2
      subst e0 e1 e2
      exact ⟨(k, n, s), rfl, w0, w1, w2⟩
set_option maxRecDepth 100000 in
theorem attr_of {fuel : Nat} {cs : List Value} {y : DataW H × List MemPlace} (h : DataW.trod enc Try.prog W base sp held fuel 35 cs = some y) : ∃ a : AttrD, cs = encA a ∧ WfAtt a := by
  obtain ⟨f0, f1, f2, hf, t0, o0, t1, o1, t2, o2⟩ := flds35
  have u : Try.prog.underlying 35 = some (.struct #[f0, f1, f2]) := by rw [und35, hf]
  obtain ⟨xs, n, _, _, hl, hlen, hff⟩ := DataW.trod_struct u h
  have h0 := hff 0 f0 rfl
  have h1 := hff 1 f1 rfl
  have h2 := hff 2 f2 rfl
  match xs, hlen with
  | [y0, y1, y2], _ =>
    simp only [List.getElem?_cons_zero, List.getElem?_cons_succ] at h0 h1 h2
    rw [t0, o0, lc9] at h0
    rw [t1, o1, lcells24] at h1
    rw [t2, o2, lc23] at h2
    rw [lc35] at hl
    obtain ⟨s, e0, _, w0⟩ := DataW.trod_string Try.underlying9 h0
    obtain ⟨x, p, e1, w1, w2⟩ := lab_of h1
    obtain ⟨v, e2, w3⟩ := val_of h2
    match cs, hl with
    | [c0, c1, c2, c3, c4, c5], _ =>
      simp at e0 e1 e2
      obtain ⟨e1, e1'⟩ := e1
      obtain ⟨e2, e3, e4⟩ := e2
      subst e0 e1 e1' e2 e3 e4
      exact ⟨(s, x, p, v), rfl, w0, w1, w2, w3⟩

/-- A slice of elements that came in. -/
theorem els_of {α : Type} {encA : α → List Value} {k : Nat} {Wf : α → Prop} {t e : TypeId} (hk : ∀ x, (encA x).length = k) (ht : Try.prog.underlying t = some (.slice e)) (he : Try.prog.cellsOf e = k) (hk0 : 0 < k)
    (hel : ∀ (fuel : Nat) (cs : List Value) (y : DataW H × List MemPlace), DataW.trod enc Try.prog W base sp held fuel e cs = some y → ∃ r : α, cs = encA r ∧ Wf r)
    {fuel : Nat} {v : Value} {x : DataW H × List MemPlace} (h : DataW.trod enc Try.prog W base sp held fuel t [v] = some x) {M : Nat} (hM : M ≤ 140737488355328) (hsz : ∀ ds es, x.1 = .slice ds es → ds.length ≤ M) :
    ∃ rs : List α, El encA k W v rs ∧ (∀ r ∈ rs, Wf r) ∧ rs.length ≤ M := by
  rcases Deep.open_slice ht h with ⟨hc, _⟩ | ⟨a, len, cap, m, n, D, Pl, hc, hb, hl, hm, hmm, rfl, hx⟩
  · simp only [List.cons.injEq, and_true] at hc
    subst hc
    exact ⟨[], Or.inl ⟨rfl, none, 0, rfl⟩, (fun r hr => by cases hr), Nat.zero_le _⟩
  · simp only [List.cons.injEq, and_true] at hc
    subst hc
    have hlm : len ≤ m := by rw [hmm]; split <;> omega
    have hlen := hsz _ _ rfl
    simp only [List.length_map, List.length_range] at hlen
    rw [he] at hx
    have each : ∀ i, i < len → ∃ r : α, W.cells? base (a.add (i * k)) k = some (encA r) ∧ Wf r := fun i hi => by
      obtain ⟨cs', h1, h2⟩ := hx i (by omega)
      obtain ⟨r, rfl, hw⟩ := hel _ _ _ h2
      exact ⟨r, h1, hw⟩
    by_cases h0 : len = 0
    · subst h0
      exact ⟨[], Or.inl ⟨rfl, _, _, rfl⟩, (fun r hr => by cases hr), Nat.zero_le _⟩
    · have : ∃ f : Nat → α, ∀ i, i < len → W.cells? base (a.add (i * k)) k = some (encA (f i)) ∧ Wf (f i) := by
        obtain ⟨r0, _⟩ := each 0 (by omega)
        exact ⟨fun i => if hi : i < len then Classical.choose (each i hi) else r0, fun i hi => by simp only [dif_pos hi]; exact Classical.choose_spec (each i hi)⟩
      obtain ⟨f, hf⟩ := this
      obtain ⟨b, off, spot⟩ := a
      have hcell : ∀ i, i < len → ∀ j, j < k → W.cell? (((⟨b, off, spot⟩ : Addr).add (i * k)).add j) = (encA (f i))[j]? := fun i hi j hj => (World.cells?_some (hf i hi).1).2.2 j hj
      have h00 := hcell 0 (by omega) 0 hk0
      rw [List.getElem?_eq_getElem (by rw [hk]; exact hk0)] at h00
      have hspot : spot = none := by simpa [Addr.add] using World.cell?_spot h00
      subst hspot
      refine ⟨(List.range len).map f, Or.inr ⟨b, off, cap, by simp, by simpa using hl, by simp only [List.length_map, List.length_range]; omega, ?_, fun j hj i u hu => ?_⟩, fun r hr => ?_, by simpa using hlen⟩
      · have hlt := World.block_lt_of_cell? W _ h00
        simpa [Addr.add] using hlt
      · have hj' : j < len := by simpa using hj
        have hfe : ((List.range len).map f)[j] = f j := by simp
        rw [hfe] at hu
        have hi : i < k := by
          have := (List.getElem?_eq_some_iff.1 hu).1
          rw [hk] at this
          exact this
        have h1 := hcell j hj' i hi
        rw [Addr.add_lit, Addr.add_lit] at h1
        rw [h1]
        exact hu
      · obtain ⟨i, hi, rfl⟩ := List.mem_map.1 hr
        exact (hf i (List.mem_range.1 hi)).2
end

set_option maxRecDepth 100000 in
/-- A value that came in. -/
theorem open_val {H : Type} {enc : TypeId × Value → H} {W : World} {r : Reach} {b0 base : Nat} {sp : Nat → Bool} {held : Bool} {v : Value} {d : DataW H} {ps : List MemPlace} (hval : Value.okWide Try.prog W r b0 23 v)
    (h : DataW.Trod enc Try.prog W base sp held 23 v d ps) : ∃ k n s, v = .agg #[.int .i64 k, .int .i64 n, .string s] ∧ WfVal (k, n, s) := by
  obtain ⟨f0, f1, f2, hf, t0, o0, t1, o1, t2, o2⟩ := flds23
  have u : Try.prog.underlying 23 = some (.struct #[f0, f1, f2]) := by rw [und23, hf]
  obtain ⟨cs, rfl, hsz⟩ : ∃ cs : Array Value, v = .agg cs ∧ cs.size = 3 := by
    simp only [Value.okWide, u] at hval
    obtain ⟨cs, h1, h2, _⟩ := hval
    exact ⟨cs, h1, by rw [h2, lc23]⟩
  obtain ⟨fuel, hfu⟩ := h
  obtain ⟨⟨k, n, s⟩, e, w⟩ := val_of hfu
  obtain ⟨l⟩ := cs
  match l, hsz with
  | [c0, c1, c2], _ =>
    simp [Value.cells] at e
    obtain ⟨e0, e1, e2⟩ := e
    subst e0 e1 e2
    exact ⟨k, n, s, rfl, w⟩

set_option maxRecDepth 100000 in
/-- A list of attributes that came in. -/
theorem open_attrs {H : Type} {enc : TypeId × Value → H} {W : World} {base : Nat} {sp : Nat → Bool} {held : Bool} {a : Option Addr} {len cap : Nat} {d : DataW H} {ps : List MemPlace}
    (h : DataW.Trod enc Try.prog W base sp held 24 (.slice a len cap) d ps) {ts : List TypeId} {ds : List (DataW H)} {j : Nat} (hs : (DataW.weightsEach Try.prog ts ds).all (· ≤ reachBytes) = true) (hj : ts[j]? = some 24) (hx : ds[j]? = some d) :
    ∃ xs, El encA 6 W (.slice a len cap) xs ∧ (∀ x ∈ xs, WfAtt x) ∧ xs.length ≤ 2199023255488 := by
  obtain ⟨fuel, hf⟩ := h
  exact els_of (encA := encA) (Wf := WfAtt) (fun _ => rfl) Try.underlying24 lc35 (by omega) (fun _ _ _ h => attr_of h) hf (by omega) (fun ds' es hde => by
    have hde : d = .slice ds' es := hde
    have hw := sized_slice hs (j := j) (t := 24) (e := 35) hj (by rw [hx, hde]) Try.underlying24
    rw [by35] at hw
    simp only [reachBytes] at hw
    omega)

end Go.Proofs.Ytibnjhnecfcimaa
