/- Batches that came in. A batch that came in, as the laws take it. -/
import Derived.Test.YteifaipbckhoiaaPn
import Derived.Test.YteifaipbckhoiaaRd
import Derived.Test.YteifaipbckhoiaaTkl
namespace Go.Proofs.Yteifaipbckhoiaa
open Go.RowKit Go.ChangeShapes Go.WideShapes
set_option linter.unusedVariables false
namespace Opb
theorem cINT : Try.prog.cellsOf 3 = 1 := by kernel_rfl
theorem cSTR : Try.prog.cellsOf 9 = 1 := by kernel_rfl
theorem cU32 : Try.prog.cellsOf 50 = 1 := by kernel_rfl
theorem cLAB : Try.prog.cellsOf 52 = 2 := by kernel_rfl
theorem cVAL : Try.prog.cellsOf 49 = 3 := by kernel_rfl
theorem cATT : Try.prog.cellsOf 54 = 6 := by kernel_rfl
theorem cATS : Try.prog.cellsOf 31 = 1 := by kernel_rfl
theorem cSPS : Try.prog.cellsOf 22 = 1 := by kernel_rfl
theorem cSP : Try.prog.cellsOf 33 = 9 := by kernel_rfl
theorem cBA : Try.prog.cellsOf 24 = 3 := by kernel_rfl
theorem uLAB : Try.prog.underlying 52 = some (.struct (Try.prog.fieldsOf 52)) := by kernel_rfl
theorem uVAL : Try.prog.underlying 49 = some (.struct (Try.prog.fieldsOf 49)) := by kernel_rfl
theorem uATT : Try.prog.underlying 54 = some (.struct (Try.prog.fieldsOf 54)) := by kernel_rfl
theorem uSP : Try.prog.underlying 33 = some (.struct (Try.prog.fieldsOf 33)) := by kernel_rfl
theorem uBA : Try.prog.underlying 24 = some (.struct (Try.prog.fieldsOf 24)) := by kernel_rfl
theorem uATS : Try.prog.underlying 31 = some (.slice 54) := by kernel_rfl
theorem uSPS : Try.prog.underlying 22 = some (.slice 33) := by kernel_rfl
theorem uINT : Try.prog.underlying 3 = some (.int .i64) := by kernel_rfl
theorem uU32 : Try.prog.underlying 50 = some (.int .u32) := by kernel_rfl
theorem uSTR : Try.prog.underlying 9 = some .string := by kernel_rfl
theorem bATT : Try.prog.bytesOf 54 = 64 := by kernel_rfl
theorem bSP : Try.prog.bytesOf 33 = 112 := by kernel_rfl
theorem fLAB : ∃ f0 f1 : Field, Try.prog.fieldsOf 52 = #[f0, f1] ∧ f0.type = 3 ∧ f0.offset = 0 ∧ f1.type = 50 ∧ f1.offset = 1 := ⟨(Try.prog.fieldsOf 52)[0]!, (Try.prog.fieldsOf 52)[1]!, by kernel_rfl, by kernel_rfl, by kernel_rfl, by kernel_rfl, by kernel_rfl⟩
theorem fVAL : ∃ f0 f1 f2 : Field, Try.prog.fieldsOf 49 = #[f0, f1, f2] ∧ f0.type = 3 ∧ f0.offset = 0 ∧ f1.type = 3 ∧ f1.offset = 1 ∧ f2.type = 9 ∧ f2.offset = 2 := ⟨(Try.prog.fieldsOf 49)[0]!, (Try.prog.fieldsOf 49)[1]!, (Try.prog.fieldsOf 49)[2]!, by kernel_rfl, by kernel_rfl, by kernel_rfl, by kernel_rfl, by kernel_rfl, by kernel_rfl, by kernel_rfl⟩
theorem fATT : ∃ f0 f1 f2 : Field, Try.prog.fieldsOf 54 = #[f0, f1, f2] ∧ f0.type = 9 ∧ f0.offset = 0 ∧ f1.type = 52 ∧ f1.offset = 1 ∧ f2.type = 49 ∧ f2.offset = 3 := ⟨(Try.prog.fieldsOf 54)[0]!, (Try.prog.fieldsOf 54)[1]!, (Try.prog.fieldsOf 54)[2]!, by kernel_rfl, by kernel_rfl, by kernel_rfl, by kernel_rfl, by kernel_rfl, by kernel_rfl, by kernel_rfl⟩
theorem fSP : ∃ f0 f1 f2 f3 f4 f5 f6 f7 f8 : Field, Try.prog.fieldsOf 33 = #[f0, f1, f2, f3, f4, f5, f6, f7, f8] ∧ f0.type = 3 ∧ f0.offset = 0 ∧ f1.type = 3 ∧ f1.offset = 1 ∧ f2.type = 3 ∧ f2.offset = 2 ∧ f3.type = 9 ∧ f3.offset = 3 ∧ f4.type = 9 ∧ f4.offset = 4 ∧ f5.type = 3 ∧ f5.offset = 5 ∧ f6.type = 3 ∧ f6.offset = 6 ∧ f7.type = 9 ∧ f7.offset = 7 ∧ f8.type = 31 ∧ f8.offset = 8 := ⟨(Try.prog.fieldsOf 33)[0]!, (Try.prog.fieldsOf 33)[1]!, (Try.prog.fieldsOf 33)[2]!, (Try.prog.fieldsOf 33)[3]!, (Try.prog.fieldsOf 33)[4]!, (Try.prog.fieldsOf 33)[5]!, (Try.prog.fieldsOf 33)[6]!, (Try.prog.fieldsOf 33)[7]!, (Try.prog.fieldsOf 33)[8]!, by kernel_rfl, by kernel_rfl, by kernel_rfl, by kernel_rfl, by kernel_rfl, by kernel_rfl, by kernel_rfl, by kernel_rfl, by kernel_rfl, by kernel_rfl, by kernel_rfl, by kernel_rfl, by kernel_rfl, by kernel_rfl, by kernel_rfl, by kernel_rfl, by kernel_rfl, by kernel_rfl, by kernel_rfl⟩
theorem fBA : ∃ f0 f1 f2 : Field, Try.prog.fieldsOf 24 = #[f0, f1, f2] ∧ f0.type = 3 ∧ f0.offset = 0 ∧ f1.type = 3 ∧ f1.offset = 1 ∧ f2.type = 22 ∧ f2.offset = 2 := ⟨(Try.prog.fieldsOf 24)[0]!, (Try.prog.fieldsOf 24)[1]!, (Try.prog.fieldsOf 24)[2]!, by kernel_rfl, by kernel_rfl, by kernel_rfl, by kernel_rfl, by kernel_rfl, by kernel_rfl, by kernel_rfl⟩
end Opb

/-- What any value, any attribute that came in has. -/
def WfVal (v : ValD) : Prop := (Lit.int .i64 v.1).wf = true ∧ (Lit.int .i64 v.2.1).wf = true ∧ v.2.2.size ≤ maxLen
def WfAtt (a : AttrD) : Prop := a.1.size ≤ maxLen ∧ (Lit.int .i64 a.2.1).wf = true ∧ (Lit.int .u32 a.2.2.1).wf = true ∧ WfVal a.2.2.2
theorem u32_wf {p : Int} (h : (Lit.int .u32 p).wf = true) : 0 ≤ p ∧ p ≤ 4294967295 := by
  simp only [Lit.wf, Bool.and_eq_true, decide_eq_true_eq] at h
  have a3 : IntKind.u32.min = 0 := rfl
  have a4 : IntKind.u32.max = 4294967295 := rfl
  rw [a3, a4] at h
  exact h
theorem WfAtt.wf {a : AttrD} (h : WfAtt a) : WfA a := by
  have h3 := h.2.2.1
  exact u32_wf h3
structure WfSpan (W : World) (q : SpanV) : Prop where
  tr : (Lit.int .i64 q.1.tr).wf = true
  sid : (Lit.int .i64 q.1.sid).wf = true
  pa : (Lit.int .i64 q.1.pa).wf = true
  st : (Lit.int .i64 q.1.st).wf = true
  ln : (Lit.int .i64 q.1.ln).wf = true
  sv : q.1.sv.size ≤ maxLen
  op : q.1.op.size ≤ maxLen
  sb : q.1.sb.size ≤ maxLen
  el : El encA 6 W q.2 q.1.ats
  ats : ∀ a ∈ q.1.ats, WfAtt a
  len : q.1.ats.length * 64 ≤ reachBytes

section
variable {H : Type} {enc : TypeId × Value → H} {W : World} {base : Nat} {sp : Nat → Bool} {held : Bool}

set_option maxRecDepth 100000 in
theorem lab_of {fuel : Nat} {cs : List Value} {y : DataW H × List MemPlace} (h : DataW.trod enc Try.prog W base sp held fuel 52 cs = some y) : ∃ x p, cs = [.int .i64 x, .int .u32 p] ∧ (Lit.int .i64 x).wf = true ∧ (Lit.int .u32 p).wf = true := by
  obtain ⟨f0, f1, hf, t0, o0, t1, o1⟩ := Opb.fLAB
  have u : Try.prog.underlying 52 = some (.struct #[f0, f1]) := by rw [Opb.uLAB, hf]
  obtain ⟨y0, y1, n, _, hl, h0, h1⟩ := trod_struct2 u h
  rw [t0, o0, Opb.cINT] at h0
  rw [t1, o1, Opb.cU32] at h1
  rw [Opb.cLAB] at hl
  obtain ⟨x, e0, _, w0⟩ := DataW.trod_int Opb.uINT h0
  obtain ⟨p, e1, _, w1⟩ := DataW.trod_int Opb.uU32 h1
  match cs, hl with
  | [c0, c1], _ =>
    simp at e0 e1
    subst e0 e1
    exact ⟨x, p, rfl, w0, w1⟩
set_option maxRecDepth 100000 in
theorem val_of {fuel : Nat} {cs : List Value} {y : DataW H × List MemPlace} (h : DataW.trod enc Try.prog W base sp held fuel 49 cs = some y) : ∃ v : ValD, cs = [.int .i64 v.1, .int .i64 v.2.1, .string v.2.2] ∧ WfVal v := by
  obtain ⟨f0, f1, f2, hf, t0, o0, t1, o1, t2, o2⟩ := Opb.fVAL
  have u : Try.prog.underlying 49 = some (.struct #[f0, f1, f2]) := by rw [Opb.uVAL, hf]
  obtain ⟨xs, n, _, _, hl, hlen, hff⟩ := DataW.trod_struct u h
  have h0 := hff 0 f0 rfl
  have h1 := hff 1 f1 rfl
  have h2 := hff 2 f2 rfl
  match xs, hlen with
  | [y0, y1, y2], _ =>
    simp only [List.getElem?_cons_zero, List.getElem?_cons_succ] at h0 h1 h2
    rw [t0, o0, Opb.cINT] at h0
    rw [t1, o1, Opb.cINT] at h1
    rw [t2, o2, Opb.cSTR] at h2
    rw [Opb.cVAL] at hl
    obtain ⟨k, e0, _, w0⟩ := DataW.trod_int Opb.uINT h0
    obtain ⟨n, e1, _, w1⟩ := DataW.trod_int Opb.uINT h1
    obtain ⟨s, e2, _, w2⟩ := DataW.trod_string Opb.uSTR h2
    match cs, hl with
    | [c0, c1, c2], _ =>
      simp at e0 e1 e2
      subst e0 e1 e2
      exact ⟨(k, n, s), rfl, w0, w1, w2⟩
set_option maxRecDepth 100000 in
theorem attr_of {fuel : Nat} {cs : List Value} {y : DataW H × List MemPlace} (h : DataW.trod enc Try.prog W base sp held fuel 54 cs = some y) : ∃ a : AttrD, cs = encA a ∧ WfAtt a := by
  obtain ⟨f0, f1, f2, hf, t0, o0, t1, o1, t2, o2⟩ := Opb.fATT
  have u : Try.prog.underlying 54 = some (.struct #[f0, f1, f2]) := by rw [Opb.uATT, hf]
  obtain ⟨xs, n, _, _, hl, hlen, hff⟩ := DataW.trod_struct u h
  have h0 := hff 0 f0 rfl
  have h1 := hff 1 f1 rfl
  have h2 := hff 2 f2 rfl
  match xs, hlen with
  | [y0, y1, y2], _ =>
    simp only [List.getElem?_cons_zero, List.getElem?_cons_succ] at h0 h1 h2
    rw [t0, o0, Opb.cSTR] at h0
    rw [t1, o1, Opb.cLAB] at h1
    rw [t2, o2, Opb.cVAL] at h2
    rw [Opb.cATT] at hl
    obtain ⟨s, e0, _, w0⟩ := DataW.trod_string Opb.uSTR h0
    obtain ⟨x, p, e1, w1, w2⟩ := lab_of h1
    obtain ⟨v, e2, w3⟩ := val_of h2
    match cs, hl with
    | [c0, c1, c2, c3, c4, c5], _ =>
      simp at e0 e1 e2
      obtain ⟨e1, e1'⟩ := e1
      obtain ⟨e2, e3, e4⟩ := e2
      subst e0 e1 e1' e2 e3 e4
      exact ⟨(s, x, p, v), rfl, w0, w1, w2, w3⟩
set_option maxRecDepth 100000 in
theorem span_of {fuel : Nat} {cs : List Value} {y : DataW H × List MemPlace} (h : DataW.trod enc Try.prog W base sp held fuel 33 cs = some y) (hw : Wt Try.prog 33 y.1) : ∃ q : SpanV, cs = encS q ∧ WfSpan W q := by
  obtain ⟨f0, f1, f2, f3, f4, f5, f6, f7, f8, hf, t0, o0, t1, o1, t2, o2, t3, o3, t4, o4, t5, o5, t6, o6, t7, o7, t8, o8⟩ := Opb.fSP
  have u : Try.prog.underlying 33 = some (.struct #[f0, f1, f2, f3, f4, f5, f6, f7, f8]) := by rw [Opb.uSP, hf]
  obtain ⟨xs, n, _, hy, hl, hlen, hff⟩ := DataW.trod_struct u h
  have h0 := hff 0 f0 rfl
  have h1 := hff 1 f1 rfl
  have h2 := hff 2 f2 rfl
  have h3 := hff 3 f3 rfl
  have h4 := hff 4 f4 rfl
  have h5 := hff 5 f5 rfl
  have h6 := hff 6 f6 rfl
  have h7 := hff 7 f7 rfl
  have h8 := hff 8 f8 rfl
  match xs, hlen with
  | [y0, y1, y2, y3, y4, y5, y6, y7, y8], _ =>
    simp only [List.getElem?_cons_zero, List.getElem?_cons_succ] at h0 h1 h2 h3 h4 h5 h6 h7 h8
    have hw8 : Wt Try.prog 31 y8.1 := by
      rw [hy] at hw
      rw [← t8]
      exact hw.field u (i := 8) rfl rfl
    rw [t0, o0, Opb.cINT] at h0
    rw [t1, o1, Opb.cINT] at h1
    rw [t2, o2, Opb.cINT] at h2
    rw [t3, o3, Opb.cSTR] at h3
    rw [t4, o4, Opb.cSTR] at h4
    rw [t5, o5, Opb.cINT] at h5
    rw [t6, o6, Opb.cINT] at h6
    rw [t7, o7, Opb.cSTR] at h7
    rw [t8, o8, Opb.cATS] at h8
    rw [Opb.cSP] at hl
    obtain ⟨a0, e0, _, w0⟩ := DataW.trod_int Opb.uINT h0
    obtain ⟨a1, e1, _, w1⟩ := DataW.trod_int Opb.uINT h1
    obtain ⟨a2, e2, _, w2⟩ := DataW.trod_int Opb.uINT h2
    obtain ⟨a3, e3, _, w3⟩ := DataW.trod_string Opb.uSTR h3
    obtain ⟨a4, e4, _, w4⟩ := DataW.trod_string Opb.uSTR h4
    obtain ⟨a5, e5, _, w5⟩ := DataW.trod_int Opb.uINT h5
    obtain ⟨a6, e6, _, w6⟩ := DataW.trod_int Opb.uINT h6
    obtain ⟨a7, e7, _, w7⟩ := DataW.trod_string Opb.uSTR h7
    match cs, hl with
    | [c0, c1, c2, c3, c4, c5, c6, c7, c8], _ =>
      simp at e0 e1 e2 e3 e4 e5 e6 e7
      subst e0 e1 e2 e3 e4 e5 e6 e7
      have h8' : DataW.trod enc Try.prog W base sp held n 31 [c8] = some y8 := h8
      obtain ⟨at_, k1, k2, k3⟩ := elsw_of (encA := encA) (Wf := WfAtt) lenA Opb.uATS Opb.cATT (by omega) Opb.bATT (by omega) (fun _ _ _ h _ => attr_of h) h8' hw8
      exact ⟨(⟨a0, a1, a2, a5, a6, a3, a4, a7, at_⟩, c8), rfl, w0, w1, w2, w5, w6, w3, w4, w7, k1, k2, k3⟩
end

set_option maxRecDepth 100000 in
/-- A batch that came in. -/
theorem open_batch {H : Type} {enc : TypeId × Value → H} {W : World} {r : Reach} {b0 base : Nat} {sp : Nat → Bool} {held : Bool} {v : Value} {d : DataW H} {ps : List MemPlace} (hval : Value.okWide Try.prog W r b0 24 v)
    (h : DataW.Trod enc Try.prog W base sp held 24 v d ps) {ts : List TypeId} {ds : List (DataW H)} {j : Nat} (hs : (DataW.weightsEach Try.prog ts ds).all (· ≤ reachBytes) = true) (hj : ts[j]? = some 24) (hx : ds[j]? = some d) :
    ∃ ag sq c qs, v = .agg #[.int .i64 ag, .int .i64 sq, c] ∧ (Lit.int .i64 ag).wf = true ∧ (Lit.int .i64 sq).wf = true ∧ El encS 9 W c qs ∧ (∀ q ∈ qs, WfSpan W q) ∧ qs.length * 112 ≤ reachBytes := by
  obtain ⟨f0, f1, f2, hf, t0, o0, t1, o1, t2, o2⟩ := Opb.fBA
  have u : Try.prog.underlying 24 = some (.struct #[f0, f1, f2]) := by rw [Opb.uBA, hf]
  obtain ⟨cs, rfl, hsz⟩ : ∃ cs : Array Value, v = .agg cs ∧ cs.size = 3 := by
    simp only [Value.okWide, u] at hval
    obtain ⟨cs, h1, h2, _⟩ := hval
    exact ⟨cs, h1, by rw [h2, Opb.cBA]⟩
  obtain ⟨l⟩ := cs
  match l, hsz with
  | [c0, c1, c2], _ =>
    obtain ⟨fuel, hfu⟩ := h
    have hw := Wt.of hs hj hx
    obtain ⟨xs, n, _, hy, hl, hlen, hff⟩ := DataW.trod_struct u hfu
    have h0 := hff 0 f0 rfl
    have h1 := hff 1 f1 rfl
    have h2 := hff 2 f2 rfl
    match xs, hlen with
    | [y0, y1, y2], _ =>
      simp only [List.getElem?_cons_zero, List.getElem?_cons_succ] at h0 h1 h2
      have hd : d = .agg [y0.1, y1.1, y2.1] := congrArg Prod.fst hy
      have hw2 : Wt Try.prog 22 y2.1 := by
        rw [hd] at hw
        rw [← t2]
        exact hw.field u (i := 2) rfl rfl
      rw [t0, o0, Opb.cINT] at h0
      rw [t1, o1, Opb.cINT] at h1
      rw [t2, o2, Opb.cSPS] at h2
      obtain ⟨ag, e0, _, w0⟩ := DataW.trod_int Opb.uINT h0
      obtain ⟨sq, e1, _, w1⟩ := DataW.trod_int Opb.uINT h1
      have e0' : c0 = .int .i64 ag := by simpa [Value.cells] using e0
      have e1' : c1 = .int .i64 sq := by simpa [Value.cells] using e1
      subst e0' e1'
      have h2' : DataW.trod enc Try.prog W base sp held n 22 [c2] = some y2 := h2
      obtain ⟨qs, k1, k2, k3⟩ := elsw_of (encA := encS) (Wf := WfSpan W) lenS Opb.uSPS Opb.cSP (by omega) Opb.bSP (by omega) (fun _ _ _ h w => span_of h w) h2' hw2
      exact ⟨ag, sq, c2, qs, rfl, w0, w1, k1, k2, k3⟩

end Go.Proofs.Yteifaipbckhoiaa

namespace Go.Proofs.Yteifaipbckhoiaa
open Go.RowKit Go.ChangeShapes Go.WideShapes
set_option linter.unusedVariables false

/-- What a list's spans have room for. -/
def Room (qs : List SpanV) : Prop := qs.length * 112 ≤ 140737488355328 ∧ ∀ q ∈ qs, q.1.ats.length * 64 ≤ 140737488355328
/-- A batch that came in. -/
structure BatIn (W : World) (ag sq : Int) (c : Value) (qs : List SpanV) : Prop where
  sps : Sps W c qs
  wf : ∀ q ∈ qs, WfS q.1
  room : Room qs
  sb : ∀ q ∈ qs, q.1.sb.size ≤ maxLen
set_option maxRecDepth 100000 in
theorem open_bat {H : Type} {enc : TypeId × Value → H} {W : World} {r : Reach} {b0 base : Nat} {sp : Nat → Bool} {held : Bool} {v : Value} {d : DataW H} {ps : List MemPlace} (hval : Value.okWide Try.prog W r b0 24 v)
    (h : DataW.Trod enc Try.prog W base sp held 24 v d ps) {ts : List TypeId} {ds : List (DataW H)} {j : Nat} (hs : (DataW.weightsEach Try.prog ts ds).all (· ≤ reachBytes) = true) (hj : ts[j]? = some 24) (hx : ds[j]? = some d) :
    ∃ ag sq c qs, v = .agg #[.int .i64 ag, .int .i64 sq, c] ∧ BatIn W ag sq c qs := by
  obtain ⟨ag, sq, c, qs, rfl, _, _, hel, hw, hl⟩ := open_batch hval h hs hj hx
  exact ⟨ag, sq, c, qs, rfl, ⟨hel, fun q hq => (hw q hq).el⟩, fun q hq a ha => ((hw q hq).ats a ha).wf, ⟨by simp only [reachBytes] at hl; omega, fun q hq => by have h := (hw q hq).len; simp only [reachBytes] at h; omega⟩, fun q hq => (hw q hq).sb⟩

end Go.Proofs.Yteifaipbckhoiaa
