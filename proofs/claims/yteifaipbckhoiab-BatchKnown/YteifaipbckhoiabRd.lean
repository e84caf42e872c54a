/- The document's u: numbers' bytes, one behind the other. The document's CheckSpan. Spans as they lie; the document's write. The document's Check and Bytes of batches. The document's Bytes of batches. -/
import Derived.Test.YteifaipbckhoiabMh
import Derived.Test.YteifaipbckhoiabPn
import Derived.Test.YteifaipbckhoiabLi
import Derived.Test.YteifaipbckhoiabRnm
import Derived.Test.YteifaipbckhoiabAl
namespace Go.Proofs.Yteifaipbckhoiab
open Go.RowKit
set_option linter.unusedVariables false

theorem ow_bx {N : Nat} {w : World} {v : Value} {l : List Int} (h : Ow N w v l) : Bx w.heap.size w v l := Or.inl (h.bs.weaken (A' := fun b => b < w.heap.size) (fun b hb _ => hb))
def encs : List Int → List Int
  | [] => []
  | x :: t => Num.enc x ++ encs t
theorem encs_app (a b : List Int) : encs (a ++ b) = encs a ++ encs b := by
  induction a with
  | nil => rfl
  | cons x t ih =>
    show Num.enc x ++ encs (t ++ b) = (Num.enc x ++ encs t) ++ encs b
    rw [ih, List.append_assoc]
theorem encs_take {l : List Int} {k : Nat} (h : k < l.length) : encs (l.take (k + 1)) = encs (l.take k) ++ Num.enc l[k] := by
  rw [List.take_succ_eq_append_getElem h, encs_app]
  show _ ++ (Num.enc l[k] ++ []) = _
  rw [List.append_nil]
theorem encs_len : ∀ {l : List Int}, (∀ x ∈ l, 0 ≤ x ∧ x ≤ 9007199254740991) → (encs l).length ≤ 8 * l.length
  | [], _ => Nat.zero_le _
  | x :: t, h => by
    have h1 := h x (List.mem_cons_self ..)
    have h2 := Num.enc_length x
    have h3 := Num.sz_bd x h1.1
    have ih := encs_len (l := t) (fun y hy => h y (List.mem_cons_of_mem _ hy))
    show (Num.enc x ++ encs t).length ≤ 8 * (t.length + 1)
    rw [List.length_append]
    omega

end Go.Proofs.Yteifaipbckhoiab

namespace Go.Proofs.Yteifaipbckhoiab
open Go.RowKit
set_option linter.unusedVariables false

def inB (n a : Int) : Bool := decide (a ≤ n) && decide (n ≤ 9007199254740991)
theorem inB_is (n a : Int) : decide (a ≤ n ∧ n ≤ 9007199254740991) = inB n a := by unfold inB; rw [Bool.decide_and]
theorem inB_t {n a : Int} (h : inB n a = true) : a ≤ n ∧ n ≤ 9007199254740991 := by rw [← inB_is] at h; simpa using h
theorem okS_in (s : SpanD) : okS s = (inB s.tr 1 && inB s.sid 1 && inB s.pa 0 && inB s.st 0 && inB s.ln 0 && decide (s.st + s.ln ≤ 9007199254740991) && isNm s.sv && isNm s.op && decide (s.sb.size ≤ 64) && okAs s.ats) := by
  unfold okS
  rw [inB_is, inB_is, inB_is, inB_is, inB_is]
end Go.Proofs.Yteifaipbckhoiab

namespace Go.Proofs.Yteifaipbckhoiab
open Go.RowKit
set_option linter.unusedVariables false

/-- A span, and where its attributes lie. -/
abbrev SpanV := SpanD × Value
def encS (q : SpanV) : List Value := [.int .i64 q.1.tr, .int .i64 q.1.sid, .int .i64 q.1.pa, .string q.1.sv, .string q.1.op, .int .i64 q.1.st, .int .i64 q.1.ln, .string q.1.sb, q.2]
theorem lenS (q : SpanV) : (encS q).length = 9 := rfl
/-- The slice c holds these spans, each with its attributes. -/
structure Sps (w : World) (c : Value) (qs : List SpanV) : Prop where
  el : El encS 9 w c qs
  ats : ∀ q ∈ qs, El encA 6 w q.2 q.1.ats
theorem Sps.keep {w w' : World} {c : Value} {qs : List SpanV} (h : Sps w c qs) (b : Below w.heap.size w w') : Sps w' c qs := ⟨h.el.keep b, fun q hq => (h.ats q hq).keep b⟩
set_option maxRecDepth 100000 in
theorem Sps.atS {w w' : World} {qs : List SpanV} {x0 : Option Addr} {n cap : Nat} (h : Sps w (.slice x0 n cap) qs) (bl : Below w.heap.size w w') (hn : qs.length = n) {j : Nat} (hj : j < n) {tr sid pa st ln : Int} {sv op sb : ByteArray} {ats : List AttrD} {v : Value}
    (he : qs[j]'(by omega) = (⟨tr, sid, pa, st, ln, sv, op, sb, ats⟩, v)) :
    ∃ g off, x0 = some ⟨g, off, none⟩ ∧ n ≤ cap ∧ n ≤ 140737488355328 ∧ w'.cell? ⟨g, off + j * 9, none⟩ = some (.int .i64 tr) ∧ w'.cell? ⟨g, off + j * 9 + 1, none⟩ = some (.int .i64 sid) ∧ w'.cell? ⟨g, off + j * 9 + 2, none⟩ = some (.int .i64 pa)
      ∧ w'.cell? ⟨g, off + j * 9 + 3, none⟩ = some (.string sv) ∧ w'.cell? ⟨g, off + j * 9 + 4, none⟩ = some (.string op) ∧ w'.cell? ⟨g, off + j * 9 + 5, none⟩ = some (.int .i64 st) ∧ w'.cell? ⟨g, off + j * 9 + 6, none⟩ = some (.int .i64 ln)
      ∧ w'.cell? ⟨g, off + j * 9 + 7, none⟩ = some (.string sb) ∧ w'.cell? ⟨g, off + j * 9 + 8, none⟩ = some v ∧ El encA 6 w v ats := by
  obtain ⟨g, off, h1, h2, h3, h4⟩ := h.el.at_ bl hn hj
  have h5 := h.ats _ (List.getElem_mem (by omega : j < qs.length))
  rw [he] at h4 h5
  exact ⟨g, off, h1, h2, h3, h4 0 _ rfl, h4 1 _ rfl, h4 2 _ rfl, h4 3 _ rfl, h4 4 _ rfl, h4 5 _ rfl, h4 6 _ rfl, h4 7 _ rfl, h4 8 _ rfl, h5⟩
def spd (qs : List SpanV) : List SpanD := qs.map Prod.fst
theorem spd_len (qs : List SpanV) : (spd qs).length = qs.length := List.length_map _
theorem spsB_one (a : SpanD) : spsB [a] = spanB a := List.append_nil (spanB a)
theorem spsB_snoc {xs : List SpanV} {k : Nat} (h : k < xs.length) : spsB (spd (xs.take (k + 1))) = spsB (spd (xs.take k)) ++ spanB (xs[k]'h).1 := by
  rw [List.take_succ_eq_append_getElem h]
  generalize xs[k] = q
  unfold spd
  rw [List.map_append, spsB_app]
  exact congrArg (spsB (List.map Prod.fst (List.take k xs)) ++ ·) (spsB_one q.1)
theorem txB_le {s : ByteArray} (h : s.size ≤ 64) : (txB s).length ≤ 72 := by
  unfold txB
  rw [List.length_append, bytesOf_length]
  have h1 := Num.enc_length (s.size : Int)
  have h2 := Num.sz_bd (s.size : Int) (by omega)
  omega
theorem listB_le {xs : List AttrD} (h : okAs xs = true) (hw : ∀ a ∈ xs, WfA a) : (listB xs).length ≤ 1608 := by
  have h1 := asB_take_le h hw xs.length
  rw [List.take_of_length_le (Nat.le_refl _)] at h1
  have h2 := Num.enc_length (xs.length : Int)
  have h3 := Num.sz_bd (xs.length : Int) (by omega)
  unfold listB
  rw [List.length_append]
  omega
def nums (s : SpanD) : List Int := [s.tr, s.sid, s.pa, s.st, s.ln]
theorem nums_rg {s : SpanD} (h : Fit s) : ∀ x ∈ nums s, 0 ≤ x ∧ x ≤ 9007199254740991 := by
  intro x hx
  unfold nums at hx
  simp only [List.mem_cons, List.not_mem_nil, or_false] at hx
  rcases hx with rfl | rfl | rfl | rfl | rfl
  · exact h.tr
  · exact h.sid
  · exact h.pa
  · exact h.st
  · exact h.ln
theorem spanB_parts (s : SpanD) : spanB s = encs (nums s) ++ (txB s.sv ++ (txB s.op ++ (txB s.sb ++ listB s.ats))) := by
  unfold spanB nums encs encs encs encs encs encs
  simp only [List.append_assoc, List.append_nil]
theorem spanB_le {s : SpanD} (h : Fit s) : (spanB s).length ≤ 1900 := by
  rw [spanB_parts]
  simp only [List.length_append]
  have h1 := encs_len (nums_rg h)
  have h2 := txB_le (s := s.sv) (by have := h.sv; omega)
  have h3 := txB_le (s := s.op) (by have := h.op; omega)
  have h4 := txB_le h.sb
  have h5 := listB_le h.ats h.wf
  have h6 : (nums s).length = 5 := rfl
  omega
theorem spsB_le : ∀ {xs : List SpanD}, (∀ s ∈ xs, Fit s) → (spsB xs).length ≤ 1900 * xs.length
  | [], _ => Nat.zero_le _
  | a :: t, h => by
    show (spanB a ++ spsB t).length ≤ 1900 * (t.length + 1)
    rw [List.length_append]
    have h1 := spanB_le (h a (List.mem_cons_self ..))
    have h2 := spsB_le (xs := t) (fun s hs => h s (List.mem_cons_of_mem _ hs))
    omega
theorem batB_parts (b : BatchD) : batB b = encs [b.ag, b.sq, (b.sp.length : Int)] ++ spsB b.sp := by
  unfold batB encs encs encs encs
  simp only [List.append_assoc, List.append_nil]

end Go.Proofs.Yteifaipbckhoiab

namespace Go.Proofs.Yteifaipbckhoiab
open Go.RowKit
set_option linter.unusedVariables false

theorem okB_if {b : BatchD} {c : Int} (hc : (if okB b then (0 : Int) else 90) = c) (h : okB b = true → False) : c = 90 := by
  cases hb : okB b with
  | false => rw [hb] at hc; exact hc.symm
  | true => exact (h hb).elim
theorem okB_mk {ag sq : Int} {qs : List SpanV} (h1 : 1 ≤ ag ∧ ag ≤ 16) (h2 : 1 ≤ sq ∧ sq ≤ 9007199254740991) (h3 : 1 ≤ qs.length ∧ qs.length ≤ 16) (h4 : ∀ q ∈ qs, okS q.1 = true) (h5 : (batB ⟨ag, sq, spd qs⟩).length ≤ 8192) : okB ⟨ag, sq, spd qs⟩ = true := by
  unfold okB
  simp only [Bool.and_eq_true, decide_eq_true_eq, List.all_eq_true, spd_len]
  refine ⟨⟨⟨⟨h1, h2⟩, h3⟩, fun s hs => ?_⟩, h5⟩
  obtain ⟨q, hq, rfl⟩ := List.mem_map.1 hs
  exact h4 q hq
theorem okB_sp {ag sq : Int} {qs : List SpanV} (h : okB ⟨ag, sq, spd qs⟩ = true) : ∀ q ∈ qs, okS q.1 = true := fun q hq => (okB_parts h).2.2.2.1 q.1 (List.mem_map.2 ⟨q, hq, rfl⟩)

end Go.Proofs.Yteifaipbckhoiab

namespace Go.Proofs.Yteifaipbckhoiab
open Go.RowKit
set_option linter.unusedVariables false

end Go.Proofs.Yteifaipbckhoiab
