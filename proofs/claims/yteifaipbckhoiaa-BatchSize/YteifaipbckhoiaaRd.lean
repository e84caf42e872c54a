/- The document's u: numbers' bytes, one behind the other. The document's CheckSpan. Spans as they lie; the document's write. The document's Check and Bytes of batches. The document's Bytes of batches. -/
import Derived.Test.YteifaipbckhoiaaMh
import Derived.Test.YteifaipbckhoiaaPn
import Derived.Test.YteifaipbckhoiaaLi
import Derived.Test.YteifaipbckhoiaaRnm
import Derived.Test.YteifaipbckhoiaaAl
namespace Go.Proofs.Yteifaipbckhoiaa
open Go.RowKit
set_option linter.unusedVariables false

theorem ow_bx {N : Nat} {w : World} {v : Value} {l : List Int} (h : Ow N w v l) : Bx w.heap.size w v l := Or.inl (h.bs.weaken (A' := fun b => b < w.heap.size) (fun b hb _ => hb))
def encs : List Int → List Int
  | [] => []
  | x :: t => Num.enc x ++ encs t
theorem encs_app (a b : List Int) : encs (a ++ b) = encs a ++ encs b := by
  induction a with
  | nil => rfl
  | cons x t ih =>
    show Num.enc x ++ encs (t ++ b) = (Num.enc x ++ encs t) ++ encs b
    rw [ih, List.append_assoc]
theorem encs_take {l : List Int} {k : Nat} (h : k < l.length) : encs (l.take (k + 1)) = encs (l.take k) ++ Num.enc l[k] := by
  rw [List.take_succ_eq_append_getElem h, encs_app]
  show _ ++ (Num.enc l[k] ++ []) = _
  rw [List.append_nil]
theorem encs_len : ∀ {l : List Int}, (∀ x ∈ l, 0 ≤ x ∧ x ≤ 9007199254740991) → (encs l).length ≤ 8 * l.length
  | [], _ => Nat.zero_le _
  | x :: t, h => by
    have h1 := h x (List.mem_cons_self ..)
    have h2 := Num.enc_length x
    have h3 := Num.sz_bd x h1.1
    have ih := encs_len (l := t) (fun y hy => h y (List.mem_cons_of_mem _ hy))
    show (Num.enc x ++ encs t).length ≤ 8 * (t.length + 1)
    rw [List.length_append]
    omega

set_option maxRecDepth 100000 in
set_option maxHeartbeats 4000000 in
theorem ru_ok {w : World} {b n : Nat} {l : List Int} (hl : l.length = n) (hn : n ≤ 100) (hc : ∀ j (hj : j < l.length), w.cell? ⟨b, j, none⟩ = some (.int .i64 l[j])) (hr : ∀ x ∈ l, 0 ≤ x ∧ x ≤ 9007199254740991) :
    Calls Try.prog 60 #[.slice (some ⟨b, 0, none⟩) n n] w fun e w' => ∃ a cap, e = .returned (.slice a (encs l).length cap) ∧ Ow w.heap.size w' (.slice a (encs l).length cap) (encs l) ∧ Below w.heap.size w w' := by
  have HL := hd hl
  have HC := hd hc
  have HR := hd hr
  have HN := hd hn
  clear hl hc hr hn
  go_enter Try.func60, Try.ntmps60
  go_wp2_with fail
  go_loopw [3, 4, 5, 6] (fun o i _ _ wr => ∃ k : Nat, k ≤ n ∧ i = .int .i64 (k : Int) ∧ Below w.heap.size w wr ∧ Ow w.heap.size wr o (encs (l.take k))) (fun _ i _ _ _ => n - (intOf i).toNat)
  case atStart => exact ⟨0, Nat.zero_le _, rfl, Below.refl _ _, Byt.nil, Nat.zero_le _, World.ownsRow_nil w _ 5 1⟩
  case round =>
    obtain ⟨k, hkn, rfl, hb, hs⟩ := hrel
    have HB := hd hb
    have HO1 := hd hs
    obtain ⟨oa, on, oc, hov⟩ : ∃ oa on oc, u3 = Value.slice oa on oc := by
      obtain ⟨a, c, h⟩ := hs.len
      exact ⟨_, _, _, h⟩
    subst hov
    by_cases hlt : k < n
    · have hlz : (k : Int) < (n : Int) := by omega
      have hn100 := HN.out
      have hxk : k < l.length := by rw [HL.out]; exact hlt
      obtain ⟨x, hx⟩ : ∃ x, l[k] = x := ⟨_, rfl⟩
      have c0 := (below_cell hb (World.block_lt_of_cell? w _ (HC.out k hxk))).trans (HC.out k hxk)
      rw [hx] at c0
      have HX : Hid (0 ≤ x ∧ x ≤ 9007199254740991) := hd (by rw [← hx]; exact HR.out _ (List.getElem_mem hxk))
      have HT : Hid (encs (l.take (k + 1)) = encs (l.take k) ++ Num.enc x) := hd (by rw [← hx]; exact encs_take hxk)
      have HK := hd hxk
      clear hb hs hx hxk
      go_wp2_with fail
      refine (rU_ow x wr HX.out.1 HX.out.2).mono ?_
      rintro e w5 ⟨a5, cap5, rfl, ho5, hk5⟩
      obtain ⟨n5, hn5⟩ : ∃ q, (Num.enc x).length = q := ⟨_, rfl⟩
      rw [hn5] at ho5 ⊢
      have hbd : (encs (l.take k)).length + (Num.enc x).length ≤ 140737488355328 := by
        have h1 := encs_len (l := l.take k) (fun y hy => HR.out y (List.mem_of_mem_take hy))
        have h2 := Num.enc_length x
        have h3 := Num.sz_bd x HX.out.1
        rw [List.length_take] at h1
        have h4 := HN.out
        have h5 := HL.out
        omega
      have B5 := below_below HB.out hk5
      obtain ⟨v6, w6, hr6, o6, k6⟩ := append_ow (HO1.out.keep hk5) (ow_bx ho5) ho5.1 B5.size hbd 26
      have R6 := hd hr6
      have O6 := hd o6
      have B6 := hd (B5.trans k6)
      clear ho5 hk5 hbd B5 hr6 o6 k6 hn5 c0 HO1 HB
      go_wp2_with (at_builtin; refine wpList_append_run _ rfl _ _ _ _ rfl _ _ rfl rfl _ w6 R6.out ?_)
      go_roundw
      case rel => exact ⟨k + 1, by omega, by go_num, B6.out, by rw [HT.out]; exact O6.out⟩
      case measure => simp [intOf]; omega
    · have hkn' : k = n := by omega
      have hnl : ¬ (k : Int) < (n : Int) := by omega
      have ho := HO1
      rw [show l.take k = l from List.take_of_length_le (by rw [HL.out]; omega)] at ho
      subst hkn'
      clear hb hs HO1
      go_wp2_with fail
      go_ret
      obtain ⟨a', c', he⟩ := ho.out.len
      injection he with e1 e2 e3
      subst e1 e2 e3
      exact ⟨oa, oc, rfl, ho.out, HB.out⟩

end Go.Proofs.Yteifaipbckhoiaa

namespace Go.Proofs.Yteifaipbckhoiaa
open Go.RowKit
set_option linter.unusedVariables false

def inB (n a : Int) : Bool := decide (a ≤ n) && decide (n ≤ 9007199254740991)
theorem inB_is (n a : Int) : decide (a ≤ n ∧ n ≤ 9007199254740991) = inB n a := by unfold inB; rw [Bool.decide_and]
theorem inB_t {n a : Int} (h : inB n a = true) : a ≤ n ∧ n ≤ 9007199254740991 := by rw [← inB_is] at h; simpa using h
theorem okS_in (s : SpanD) : okS s = (inB s.tr 1 && inB s.sid 1 && inB s.pa 0 && inB s.st 0 && inB s.ln 0 && decide (s.st + s.ln ≤ 9007199254740991) && isNm s.sv && isNm s.op && decide (s.sb.size ≤ 64) && okAs s.ats) := by
  unfold okS
  rw [inB_is, inB_is, inB_is, inB_is, inB_is]
set_option maxHeartbeats 400000 in
theorem rin_any (n a : Int) (w : World) : Calls Try.prog 31 #[.int .i64 n, .int .i64 a] w fun e w' => e = .returned (.bool (inB n a)) ∧ w' = w := by
  unfold inB
  by_cases h1 : a ≤ n
  · by_cases h2 : n ≤ 9007199254740991
    · rw [decide_eq_true h1, decide_eq_true h2]
      go_enter Try.func31, Try.ntmps31
      go_wp2
      go_ret
      exact ⟨rfl, rfl⟩
    · rw [decide_eq_true h1, decide_eq_false h2]
      go_enter Try.func31, Try.ntmps31
      go_wp2
      go_ret
      exact ⟨rfl, rfl⟩
  · rw [decide_eq_false h1]
    go_enter Try.func31, Try.ntmps31
    go_wp2
    go_ret
    exact ⟨rfl, rfl⟩

set_option maxRecDepth 100000 in
set_option maxHeartbeats 8000000 in
theorem rcheckS_cells (tr sid pa st ln : Int) (sv op sb : ByteArray) (ats : List AttrD) (v : Value) (w : World) (hel : El encA 6 w v ats) :
    Calls Try.prog 13 #[.agg #[Value.int IntKind.i64 tr, Value.int IntKind.i64 sid, Value.int IntKind.i64 pa, Value.string sv, Value.string op, Value.int IntKind.i64 st, Value.int IntKind.i64 ln, Value.string sb, v]] w fun e w' => VEnd w (.int .i64 (if okS ⟨tr, sid, pa, st, ln, sv, op, sb, ats⟩ then 0 else 90)) e w' := by
  obtain ⟨c, hc⟩ : ∃ c : Int, (if okS ⟨tr, sid, pa, st, ln, sv, op, sb, ats⟩ then (0 : Int) else 90) = c := ⟨_, rfl⟩
  rw [hc]
  rw [okS_in] at hc
  simp only at hc
  have HC := hd hc
  clear hc
  go_enter Try.func13, Try.ntmps13
  go_wp2_with fail
  have A1 := Bk.new w 33 #[Value.int IntKind.i64 tr, Value.int IntKind.i64 sid, Value.int IntKind.i64 pa, Value.string sv, Value.string op, Value.int IntKind.i64 st, Value.int IntKind.i64 ln, Value.string sb, v]
  have B1 := hd (below1 w (Obj.cells #[Value.int IntKind.i64 tr, Value.int IntKind.i64 sid, Value.int IntKind.i64 pa, Value.string sv, Value.string op, Value.int IntKind.i64 st, Value.int IntKind.i64 ln, Value.string sb, v] 33))
  have E1 := hd (hel.keep (below1 w (Obj.cells #[Value.int IntKind.i64 tr, Value.int IntKind.i64 sid, Value.int IntKind.i64 pa, Value.string sv, Value.string op, Value.int IntKind.i64 st, Value.int IntKind.i64 ln, Value.string sb, v] 33)))
  clear hel
  generalize w.alloc (Obj.cells #[Value.int IntKind.i64 tr, Value.int IntKind.i64 sid, Value.int IntKind.i64 pa, Value.string sv, Value.string op, Value.int IntKind.i64 st, Value.int IntKind.i64 ln, Value.string sb, v] 33) = w1 at *
  have c0 := A1.cell 0
  have c1 := A1.cell 1
  have c2 := A1.cell 2
  have c3 := A1.cell 3
  have c4 := A1.cell 4
  have c5 := A1.cell 5
  have c6 := A1.cell 6
  have c7 := A1.cell 7
  have c8 := A1.cell 8
  simp at c0 c1 c2 c3 c4 c5 c6 c7 c8
  have HA := hd A1
  clear A1
  refine (rin_any tr 1 w1).mono ?_
  rintro e w1 ⟨rfl, rfl⟩
  cases h0 : inB tr 1
  · have H0 := hd h0
    clear h0
    go_wp2_with fail
    go_ret
    exact VEnd.eq (VEnd.mk B1.out) (by rw [← HC.out, H0.out]; rfl)
  · have H0 := hd h0
    clear h0
    go_wp2_with fail
    refine (rin_any sid 1 w1).mono ?_
    rintro e w1 ⟨rfl, rfl⟩
    cases h1 : inB sid 1
    · have H1 := hd h1
      clear h1
      go_wp2_with fail
      go_ret
      exact VEnd.eq (VEnd.mk B1.out) (by rw [← HC.out, H0.out, H1.out]; rfl)
    · have H1 := hd h1
      clear h1
      go_wp2_with fail
      refine (rin_any pa 0 w1).mono ?_
      rintro e w1 ⟨rfl, rfl⟩
      cases h2 : inB pa 0
      · have H2 := hd h2
        clear h2
        go_wp2_with fail
        go_ret
        exact VEnd.eq (VEnd.mk B1.out) (by rw [← HC.out, H0.out, H1.out, H2.out]; rfl)
      · have H2 := hd h2
        clear h2
        go_wp2_with fail
        refine (rin_any st 0 w1).mono ?_
        rintro e w1 ⟨rfl, rfl⟩
        cases h3 : inB st 0
        · have H3 := hd h3
          clear h3
          go_wp2_with fail
          go_ret
          exact VEnd.eq (VEnd.mk B1.out) (by rw [← HC.out, H0.out, H1.out, H2.out, H3.out]; rfl)
        · have H3 := hd h3
          clear h3
          go_wp2_with fail
          refine (rin_any ln 0 w1).mono ?_
          rintro e w1 ⟨rfl, rfl⟩
          cases h4 : inB ln 0
          · have H4 := hd h4
            clear h4
            go_wp2_with fail
            go_ret
            exact VEnd.eq (VEnd.mk B1.out) (by rw [← HC.out, H0.out, H1.out, H2.out, H3.out, H4.out]; rfl)
          · have H4 := hd h4
            clear h4
            have hs : IntKind.i64.wrap (st + ln) = st + ln := by have h1 := inB_t H3.out; have h2 := inB_t H4.out; rw [IntKind.wrap_i64]; omega
            by_cases h5 : st + ln ≤ 9007199254740991
            · have H5 := hd (decide_eq_true h5)
              have h5n : ¬ (9007199254740991 : Int) < st + ln := by omega
              go_wp2_with fail
              clear h5 hs
              refine (risname_any sv w1).mono ?_
              rintro e w2 ⟨rfl, hk⟩
              have B2 := hd (below_below B1.out hk)
              have A2 := hd (HA.out.keep hk)
              have E2 := hd (E1.out.keep hk)
              clear hk B1 HA E1 c0 c1 c2 c3 c4 c5 c6 c7 c8
              cases h6 : isNm sv
              · have H6 := hd h6
                clear h6
                go_wp2_with fail
                go_ret
                exact VEnd.eq (VEnd.mk B2.out) (by rw [← HC.out, H0.out, H1.out, H2.out, H3.out, H4.out, H5.out, H6.out]; rfl)
              · have H6 := hd h6
                clear h6
                have c4 := A2.out.cell 4
                simp at c4
                go_wp2_with fail
                refine (risname_any op w2).mono ?_
                rintro e w3 ⟨rfl, hk⟩
                have B3 := hd (below_below B2.out hk)
                have A3 := hd (A2.out.keep hk)
                have E3 := hd (E2.out.keep hk)
                clear hk B2 A2 E2 c4
                cases h7 : isNm op
                · have H7 := hd h7
                  clear h7
                  go_wp2_with fail
                  go_ret
                  exact VEnd.eq (VEnd.mk B3.out) (by rw [← HC.out, H0.out, H1.out, H2.out, H3.out, H4.out, H5.out, H6.out, H7.out]; rfl)
                · have H7 := hd h7
                  clear h7
                  have c7 := A3.out.cell 7
                  have c8 := A3.out.cell 8
                  simp at c7 c8
                  obtain ⟨m, hm⟩ : ∃ m, sb.size = m := ⟨_, rfl⟩
                  by_cases h8 : m ≤ 64
                  · have H8 : Hid (decide (sb.size ≤ 64) = true) := hd (by rw [hm]; exact decide_eq_true h8)
                    have h8n : ¬ (64 : Int) < (m : Int) := by omega
                    have HM := hd hm
                    go_wp2_with fail
                    refine (rlistMay_any E3.out).mono ?_
                    rintro e w4 ⟨rfl, hk⟩
                    have B4 := hd (below_below B3.out hk)
                    clear hk B3 A3 E3 c7 c8 h8
                    cases h9 : okAs ats
                    · have H9 := hd h9
                      clear h9
                      go_wp2_with fail
                      go_ret
                      exact VEnd.eq (VEnd.mk B4.out) (by rw [← HC.out, H0.out, H1.out, H2.out, H3.out, H4.out, H5.out, H6.out, H7.out, H8.out, H9.out]; rfl)
                    · have H9 := hd h9
                      clear h9
                      go_wp2_with fail
                      go_ret
                      exact VEnd.eq (VEnd.mk B4.out) (by rw [← HC.out, H0.out, H1.out, H2.out, H3.out, H4.out, H5.out, H6.out, H7.out, H8.out, H9.out]; rfl)
                  · have H8 : Hid (decide (sb.size ≤ 64) = false) := hd (by rw [hm]; exact decide_eq_false h8)
                    have h8n : (64 : Int) < (m : Int) := by omega
                    go_wp2_with fail
                    go_ret
                    exact VEnd.eq (VEnd.mk B3.out) (by rw [← HC.out, H0.out, H1.out, H2.out, H3.out, H4.out, H5.out, H6.out, H7.out, H8.out]; rfl)
            · have H5 := hd (decide_eq_false h5)
              have h5n : (9007199254740991 : Int) < st + ln := by omega
              go_wp2_with fail
              go_ret
              exact VEnd.eq (VEnd.mk B1.out) (by rw [← HC.out, H0.out, H1.out, H2.out, H3.out, H4.out, H5.out]; rfl)

end Go.Proofs.Yteifaipbckhoiaa

namespace Go.Proofs.Yteifaipbckhoiaa
open Go.RowKit
set_option linter.unusedVariables false

/-- A span, and where its attributes lie. -/
abbrev SpanV := SpanD × Value
def encS (q : SpanV) : List Value := [.int .i64 q.1.tr, .int .i64 q.1.sid, .int .i64 q.1.pa, .string q.1.sv, .string q.1.op, .int .i64 q.1.st, .int .i64 q.1.ln, .string q.1.sb, q.2]
theorem lenS (q : SpanV) : (encS q).length = 9 := rfl
/-- The slice c holds these spans, each with its attributes. -/
structure Sps (w : World) (c : Value) (qs : List SpanV) : Prop where
  el : El encS 9 w c qs
  ats : ∀ q ∈ qs, El encA 6 w q.2 q.1.ats
theorem Sps.keep {w w' : World} {c : Value} {qs : List SpanV} (h : Sps w c qs) (b : Below w.heap.size w w') : Sps w' c qs := ⟨h.el.keep b, fun q hq => (h.ats q hq).keep b⟩
set_option maxRecDepth 100000 in
theorem Sps.atS {w w' : World} {qs : List SpanV} {x0 : Option Addr} {n cap : Nat} (h : Sps w (.slice x0 n cap) qs) (bl : Below w.heap.size w w') (hn : qs.length = n) {j : Nat} (hj : j < n) {tr sid pa st ln : Int} {sv op sb : ByteArray} {ats : List AttrD} {v : Value}
    (he : qs[j]'(by omega) = (⟨tr, sid, pa, st, ln, sv, op, sb, ats⟩, v)) :
    ∃ g off, x0 = some ⟨g, off, none⟩ ∧ n ≤ cap ∧ n ≤ 140737488355328 ∧ w'.cell? ⟨g, off + j * 9, none⟩ = some (.int .i64 tr) ∧ w'.cell? ⟨g, off + j * 9 + 1, none⟩ = some (.int .i64 sid) ∧ w'.cell? ⟨g, off + j * 9 + 2, none⟩ = some (.int .i64 pa)
      ∧ w'.cell? ⟨g, off + j * 9 + 3, none⟩ = some (.string sv) ∧ w'.cell? ⟨g, off + j * 9 + 4, none⟩ = some (.string op) ∧ w'.cell? ⟨g, off + j * 9 + 5, none⟩ = some (.int .i64 st) ∧ w'.cell? ⟨g, off + j * 9 + 6, none⟩ = some (.int .i64 ln)
      ∧ w'.cell? ⟨g, off + j * 9 + 7, none⟩ = some (.string sb) ∧ w'.cell? ⟨g, off + j * 9 + 8, none⟩ = some v ∧ El encA 6 w v ats := by
  obtain ⟨g, off, h1, h2, h3, h4⟩ := h.el.at_ bl hn hj
  have h5 := h.ats _ (List.getElem_mem (by omega : j < qs.length))
  rw [he] at h4 h5
  exact ⟨g, off, h1, h2, h3, h4 0 _ rfl, h4 1 _ rfl, h4 2 _ rfl, h4 3 _ rfl, h4 4 _ rfl, h4 5 _ rfl, h4 6 _ rfl, h4 7 _ rfl, h4 8 _ rfl, h5⟩
def spd (qs : List SpanV) : List SpanD := qs.map Prod.fst
theorem spd_len (qs : List SpanV) : (spd qs).length = qs.length := List.length_map _
theorem spsB_one (a : SpanD) : spsB [a] = spanB a := List.append_nil (spanB a)
theorem spsB_snoc {xs : List SpanV} {k : Nat} (h : k < xs.length) : spsB (spd (xs.take (k + 1))) = spsB (spd (xs.take k)) ++ spanB (xs[k]'h).1 := by
  rw [List.take_succ_eq_append_getElem h]
  generalize xs[k] = q
  unfold spd
  rw [List.map_append, spsB_app]
  exact congrArg (spsB (List.map Prod.fst (List.take k xs)) ++ ·) (spsB_one q.1)
theorem txB_le {s : ByteArray} (h : s.size ≤ 64) : (txB s).length ≤ 72 := by
  unfold txB
  rw [List.length_append, bytesOf_length]
  have h1 := Num.enc_length (s.size : Int)
  have h2 := Num.sz_bd (s.size : Int) (by omega)
  omega
theorem listB_le {xs : List AttrD} (h : okAs xs = true) (hw : ∀ a ∈ xs, WfA a) : (listB xs).length ≤ 1608 := by
  have h1 := asB_take_le h hw xs.length
  rw [List.take_of_length_le (Nat.le_refl _)] at h1
  have h2 := Num.enc_length (xs.length : Int)
  have h3 := Num.sz_bd (xs.length : Int) (by omega)
  unfold listB
  rw [List.length_append]
  omega
def nums (s : SpanD) : List Int := [s.tr, s.sid, s.pa, s.st, s.ln]
theorem nums_rg {s : SpanD} (h : Fit s) : ∀ x ∈ nums s, 0 ≤ x ∧ x ≤ 9007199254740991 := by
  intro x hx
  unfold nums at hx
  simp only [List.mem_cons, List.not_mem_nil, or_false] at hx
  rcases hx with rfl | rfl | rfl | rfl | rfl
  · exact h.tr
  · exact h.sid
  · exact h.pa
  · exact h.st
  · exact h.ln
theorem spanB_parts (s : SpanD) : spanB s = encs (nums s) ++ (txB s.sv ++ (txB s.op ++ (txB s.sb ++ listB s.ats))) := by
  unfold spanB nums encs encs encs encs encs encs
  simp only [List.append_assoc, List.append_nil]
theorem spanB_le {s : SpanD} (h : Fit s) : (spanB s).length ≤ 1900 := by
  rw [spanB_parts]
  simp only [List.length_append]
  have h1 := encs_len (nums_rg h)
  have h2 := txB_le (s := s.sv) (by have := h.sv; omega)
  have h3 := txB_le (s := s.op) (by have := h.op; omega)
  have h4 := txB_le h.sb
  have h5 := listB_le h.ats h.wf
  have h6 : (nums s).length = 5 := rfl
  omega
theorem spsB_le : ∀ {xs : List SpanD}, (∀ s ∈ xs, Fit s) → (spsB xs).length ≤ 1900 * xs.length
  | [], _ => Nat.zero_le _
  | a :: t, h => by
    show (spanB a ++ spsB t).length ≤ 1900 * (t.length + 1)
    rw [List.length_append]
    have h1 := spanB_le (h a (List.mem_cons_self ..))
    have h2 := spsB_le (xs := t) (fun s hs => h s (List.mem_cons_of_mem _ hs))
    omega
theorem batB_parts (b : BatchD) : batB b = encs [b.ag, b.sq, (b.sp.length : Int)] ++ spsB b.sp := by
  unfold batB encs encs encs encs
  simp only [List.append_assoc, List.append_nil]

set_option maxRecDepth 100000 in
set_option maxHeartbeats 8000000 in
theorem rwrite_ok {w : World} {c : Value} {qs : List SpanV} {ag sq : Int} (h : Sps w c qs) (h1 : 0 ≤ ag ∧ ag ≤ 9007199254740991) (h2 : 0 ≤ sq ∧ sq ≤ 9007199254740991) (h3 : qs.length ≤ 16) (hf : ∀ q ∈ qs, Fit q.1) :
    Calls Try.prog 30 #[.agg #[.int .i64 ag, .int .i64 sq, c]] w fun e w' => ∃ a cap, e = .returned (.slice a (batB ⟨ag, sq, spd qs⟩).length cap) ∧ Ow w.heap.size w' (.slice a (batB ⟨ag, sq, spd qs⟩).length cap) (batB ⟨ag, sq, spd qs⟩) ∧ Below w.heap.size w w' := by
  obtain ⟨x0, cap, rfl⟩ := h.el.form
  obtain ⟨n, hn⟩ : ∃ n, qs.length = n := ⟨_, rfl⟩
  have hbp := batB_parts ⟨ag, sq, spd qs⟩
  simp only [spd_len] at hbp
  rw [hn] at h h3 hbp ⊢
  have HN := hd hn
  have HF := hd hf
  have HS0 := hd h
  have HR : Hid (∀ x ∈ [ag, sq, (n : Int)], 0 ≤ x ∧ x ≤ 9007199254740991) := hd (by
    intro x hx
    simp only [List.mem_cons, List.not_mem_nil, or_false] at hx
    rcases hx with rfl | rfl | rfl
    · exact h1
    · exact h2
    · omega)
  have HL0 := hd (encs_len HR.out)
  obtain ⟨R, hR⟩ : ∃ R, batB ⟨ag, sq, spd qs⟩ = R := ⟨_, rfl⟩
  rw [hR] at hbp ⊢
  have HBP := hd hbp
  have h16 := h3
  clear hbp hR hn hf h h1 h2 h3
  go_enter Try.func30, Try.ntmps30
  go_wp2_with fail
  have A1 := Bk.new w 24 #[Value.int IntKind.i64 ag, Value.int IntKind.i64 sq, Value.slice x0 n cap]
  have k2 := below1 (w.alloc (Obj.cells #[Value.int IntKind.i64 ag, Value.int IntKind.i64 sq, Value.slice x0 n cap] 24)) (Obj.cells #[Value.int IntKind.i64 ag, Value.int IntKind.i64 sq, Value.int IntKind.i64 (n : Int)] 3)
  have hz : (w.alloc (Obj.cells #[Value.int IntKind.i64 ag, Value.int IntKind.i64 sq, Value.slice x0 n cap] 24)).heap.size = w.heap.size + 1 := by simp
  have V2 := Bk.new (w.alloc (Obj.cells #[Value.int IntKind.i64 ag, Value.int IntKind.i64 sq, Value.slice x0 n cap] 24)) 3 #[Value.int IntKind.i64 ag, Value.int IntKind.i64 sq, Value.int IntKind.i64 (n : Int)]
  rw [hz] at V2
  have A2 := hd (A1.keep k2)
  have BB := below2 w (Obj.cells #[Value.int IntKind.i64 ag, Value.int IntKind.i64 sq, Value.slice x0 n cap] 24) (Obj.cells #[Value.int IntKind.i64 ag, Value.int IntKind.i64 sq, Value.int IntKind.i64 (n : Int)] 3)
  have B1 := hd BB
  have S1 := hd (HS0.out.keep BB)
  clear A1 k2 hz BB HS0
  generalize (w.alloc (Obj.cells #[Value.int IntKind.i64 ag, Value.int IntKind.i64 sq, Value.slice x0 n cap] 24)).alloc (Obj.cells #[Value.int IntKind.i64 ag, Value.int IntKind.i64 sq, Value.int IntKind.i64 (n : Int)] 3) = w1 at *
  have V2h := hd V2
  clear V2
  refine (ru_ok (b := w.heap.size + 1) (n := 3) (l := [ag, sq, (n : Int)]) rfl (by omega) (fun j hj => ?_) HR.out).mono ?_
  · rw [V2h.out.cell j]
    match j, hj with
    | 0, _ => rfl
    | 1, _ => rfl
    | 2, _ => rfl
  rintro e w2 ⟨a2, cp2, rfl, ho, hk⟩
  have B2 := hd hk
  have O2 := hd ho
  clear ho hk V2h
  generalize hL0 : encs [ag, sq, (n : Int)] = L0 at *
  generalize hn0 : L0.length = n0 at *
  have HL0e := hd hL0
  have HN0 := hd hn0
  clear hL0 hn0
  go_wp2_with fail
  go_loopw [3, 4, 5, 6, 7, 8, 9, 10, 11, 12, 13] (fun o i _ _ _ _ _ _ _ _ _ wr => ∃ k : Nat, k ≤ n ∧ i = .int .i64 (k : Int) ∧ Below w1.heap.size w1 wr ∧ Ow w1.heap.size wr o (L0 ++ spsB (spd (qs.take k)))) (fun _ i _ _ _ _ _ _ _ _ _ _ => n - (intOf i).toNat)
  case atStart => exact ⟨0, Nat.zero_le _, rfl, B2.out, by rw [List.take_zero]; show Ow _ _ _ (L0 ++ []); rw [List.append_nil]; exact O2.out⟩
  case round =>
    obtain ⟨k, hkn, rfl, hb, hs⟩ := hrel
    have HB := hd hb
    have HO1 := hd hs
    obtain ⟨oa, on, oc, hov⟩ : ∃ oa on oc, u3 = Value.slice oa on oc := by
      obtain ⟨a, c, h⟩ := hs.len
      exact ⟨_, _, _, h⟩
    subst hov
    have b2 := (A2.out.keep hb).cell 2
    simp at b2
    clear hb hs B2 O2
    by_cases hlt : k < n
    · have hlz : (k : Int) < (n : Int) := by omega
      have hxk : k < qs.length := by rw [HN.out]; exact hlt
      obtain ⟨⟨⟨tr, sid, pa, st, ln, sv, op, sb, ats⟩, v⟩, he1⟩ : ∃ r : SpanV, qs[k]'(by omega) = r := ⟨_, rfl⟩
      obtain ⟨g, off, hx, hc, h47, c0, c1, c2, c3, c4, c5, c6, c7, c8, hel⟩ := S1.out.atS HB.out HN.out hlt he1
      subst hx
      obtain ⟨vx, vc, hv⟩ := hel.form
      obtain ⟨m, hm⟩ : ∃ m, ats.length = m := ⟨_, rfl⟩
      rw [hm] at hv
      subst hv
      have HE := hd hel
      have HFit : Hid (Fit ⟨tr, sid, pa, st, ln, sv, op, sb, ats⟩) := hd (by have := HF.out _ (List.getElem_mem hxk); rw [he1] at this; exact this)
      have HT : Hid (spsB (spd (qs.take (k + 1))) = spsB (spd (qs.take k)) ++ spanB ⟨tr, sid, pa, st, ln, sv, op, sb, ats⟩) := hd (by have := spsB_snoc hxk; rw [he1] at this; exact this)
      have HLE : Hid ((spsB (spd (qs.take k))).length ≤ 1900 * 16) := hd (by
        have h1 := spsB_le (xs := spd (qs.take k)) (fun s hs => by
          obtain ⟨q, hq, rfl⟩ := List.mem_map.1 hs
          exact HF.out q (List.mem_of_mem_take hq))
        rw [spd_len, List.length_take] at h1
        omega)
      clear he1 hel hxk
      have HT2 : Hid (spsB (spd (qs.take (k + 1))) = spsB (spd (qs.take k)) ++ (encs [tr, sid, pa, st, ln] ++ (txB sv ++ (txB op ++ (txB sb ++ listB ats))))) := hd (by rw [HT.out, spanB_parts]; rfl)
      have HLL : Hid ((encs [tr, sid, pa, st, ln]).length ≤ 40 ∧ (txB sv).length ≤ 72 ∧ (txB op).length ≤ 72 ∧ (txB sb).length ≤ 72 ∧ (listB ats).length ≤ 1608) := hd (by
        have f := HFit.out
        have h1 := f.sv
        have h2 := f.op
        simp only at h1 h2
        exact ⟨encs_len (nums_rg f), txB_le (by omega), txB_le (by omega), txB_le f.sb, listB_le f.ats f.wf⟩)
      have HRG : Hid (∀ x ∈ [tr, sid, pa, st, ln], 0 ≤ x ∧ x ≤ 9007199254740991) := hd (nums_rg HFit.out)
      have HU : Hid (∀ (w : World) (b : Nat), (∀ j (hj : j < [tr, sid, pa, st, ln].length), w.cell? ⟨b, j, none⟩ = some (.int .i64 [tr, sid, pa, st, ln][j])) → Calls Try.prog 60 #[.slice (some ⟨b, 0, none⟩) 5 5] w fun e w' => ∃ a cap, e = .returned (.slice a (encs [tr, sid, pa, st, ln]).length cap) ∧ Ow w.heap.size w' (.slice a (encs [tr, sid, pa, st, ln]).length cap) (encs [tr, sid, pa, st, ln]) ∧ Below w.heap.size w w') := hd (fun w b hc => ru_ok rfl (by decide) hc HRG.out)
      have T1 : Hid (∀ w, Calls Try.prog 61 #[.string sv] w fun e w' => MadeEnd w (txB sv) e w') := hd (fun w => rText_ok sv w (by have := HFit.out.sv; simp only at this; omega))
      have T2 : Hid (∀ w, Calls Try.prog 61 #[.string op] w fun e w' => MadeEnd w (txB op) e w') := hd (fun w => rText_ok op w (by have := HFit.out.op; simp only at this; omega))
      have T3 : Hid (∀ w, Calls Try.prog 61 #[.string sb] w fun e w' => MadeEnd w (txB sb) e w') := hd (fun w => rText_ok sb w (by have := HFit.out.sb; simp only at this; omega))
      have T4 : Hid (∀ w, El encA 6 w (.slice vx m vc) ats → Calls Try.prog 62 #[.slice vx m vc] w fun e w' => OwEnd w (listB ats) e w') := hd (fun w h => rattrs_ok h HFit.out.ats HFit.out.wf)
      generalize encs [tr, sid, pa, st, ln] = L1 at *
      generalize txB sv = L2 at *
      generalize txB op = L3 at *
      generalize txB sb = L4 at *
      generalize listB ats = L5 at *
      obtain ⟨n1, hn1⟩ : ∃ n, L1.length = n := ⟨_, rfl⟩
      obtain ⟨n2, hn2⟩ : ∃ n, L2.length = n := ⟨_, rfl⟩
      obtain ⟨n3, hn3⟩ : ∃ n, L3.length = n := ⟨_, rfl⟩
      obtain ⟨n4, hn4⟩ : ∃ n, L4.length = n := ⟨_, rfl⟩
      obtain ⟨n5, hn5⟩ : ∃ n, L5.length = n := ⟨_, rfl⟩
      have HN1 := hd hn1
      have HN2 := hd hn2
      have HN3 := hd hn3
      have HN4 := hd hn4
      have HN5 := hd hn5
      clear hn1 hn2 hn3 hn4 hn5 HT HFit HRG
      go_wp2_with fail
      have A5 := Bk.new wr 33 #[Value.int IntKind.i64 tr, Value.int IntKind.i64 sid, Value.int IntKind.i64 pa, Value.string sv, Value.string op, Value.int IntKind.i64 st, Value.int IntKind.i64 ln, Value.string sb, Value.slice vx m vc]
      have k5 := below1 (wr.alloc (Obj.cells #[Value.int IntKind.i64 tr, Value.int IntKind.i64 sid, Value.int IntKind.i64 pa, Value.string sv, Value.string op, Value.int IntKind.i64 st, Value.int IntKind.i64 ln, Value.string sb, Value.slice vx m vc] 33)) (Obj.cells #[Value.int IntKind.i64 tr, Value.int IntKind.i64 sid, Value.int IntKind.i64 pa, Value.int IntKind.i64 st, Value.int IntKind.i64 ln] 3)
      have hz5 : (wr.alloc (Obj.cells #[Value.int IntKind.i64 tr, Value.int IntKind.i64 sid, Value.int IntKind.i64 pa, Value.string sv, Value.string op, Value.int IntKind.i64 st, Value.int IntKind.i64 ln, Value.string sb, Value.slice vx m vc] 33)).heap.size = wr.heap.size + 1 := by simp
      have V5 := Bk.new (wr.alloc (Obj.cells #[Value.int IntKind.i64 tr, Value.int IntKind.i64 sid, Value.int IntKind.i64 pa, Value.string sv, Value.string op, Value.int IntKind.i64 st, Value.int IntKind.i64 ln, Value.string sb, Value.slice vx m vc] 33)) 3 #[Value.int IntKind.i64 tr, Value.int IntKind.i64 sid, Value.int IntKind.i64 pa, Value.int IntKind.i64 st, Value.int IntKind.i64 ln]
      rw [hz5] at V5
      have BX := below2 wr (Obj.cells #[Value.int IntKind.i64 tr, Value.int IntKind.i64 sid, Value.int IntKind.i64 pa, Value.string sv, Value.string op, Value.int IntKind.i64 st, Value.int IntKind.i64 ln, Value.string sb, Value.slice vx m vc] 33) (Obj.cells #[Value.int IntKind.i64 tr, Value.int IntKind.i64 sid, Value.int IntKind.i64 pa, Value.int IntKind.i64 st, Value.int IntKind.i64 ln] 3)
      have A5k := hd (A5.keep k5)
      have B5 := hd (below_below HB.out BX)
      have O5 := hd (HO1.out.keep BX)
      have HOF : Hid (∀ j, (Value.slice oa on oc).ownBlock = some j → j < wr.heap.size) := hd (fun j hj => (HO1.out.2.2.lt j hj).2)
      have Z5 := hd BX.size
      have BL := hd HB.out.size
      clear A5 k5 hz5 BX c0 c1 c2 c3 c4 c5 c6 c7 c8 b2 HB HO1
      generalize (wr.alloc (Obj.cells #[Value.int IntKind.i64 tr, Value.int IntKind.i64 sid, Value.int IntKind.i64 pa, Value.string sv, Value.string op, Value.int IntKind.i64 st, Value.int IntKind.i64 ln, Value.string sb, Value.slice vx m vc] 33)).alloc (Obj.cells #[Value.int IntKind.i64 tr, Value.int IntKind.i64 sid, Value.int IntKind.i64 pa, Value.int IntKind.i64 st, Value.int IntKind.i64 ln] 3) = w5 at *
      have V5h := hd V5
      clear V5
      refine (HU.out w5 (wr.heap.size + 1) (fun j hj => ?_)).mono ?_
      · rw [V5h.out.cell j]
        match j, hj with
        | 0, _ => rfl
        | 1, _ => rfl
        | 2, _ => rfl
        | 3, _ => rfl
        | 4, _ => rfl
      rintro e w6 ⟨a6, cp6, rfl, ho6, hk6⟩
      rw [HN1.out] at ho6 ⊢
      have A6 := A5k.out.keep hk6
      have B6 := below_below B5.out hk6
      have X6 := ho6.bs.weaken (A' := fun b => wr.heap.size ≤ b ∧ b < w6.heap.size) (fun b hb h => ⟨Nat.le_trans Z5.out h, hb⟩)
      obtain ⟨v7, w7, r7, o7, s7, k7, g7⟩ := append_far (ty := 26) (O5.out.keep hk6) X6 B6.size (Nat.le_refl _) (fun j hj => Or.inl (HOF.out j hj)) (by
        have h1 := HLL.out.1
        have h2 := HLE.out
        have h3 := HL0.out
        have h4 : ([ag, sq, (n : Int)] : List Int).length = 3 := rfl
        have h5 := HN0.out
        rw [List.length_append]
        omega)
      have A7 : Hid (Bk w7 wr.heap.size 33 #[Value.int IntKind.i64 tr, Value.int IntKind.i64 sid, Value.int IntKind.i64 pa, Value.string sv, Value.string op, Value.int IntKind.i64 st, Value.int IntKind.i64 ln, Value.string sb, Value.slice vx m vc]) := hd ((k7.block wr.heap.size A6.lt (fun hh => hh ⟨Nat.le_refl _, A6.lt⟩)).trans A6)
      have R7 := hd r7
      have O7 := hd o7
      have B7 := hd (B6.trans s7)
      have HF7 : Hid (∀ j, v7.ownBlock = some j → j < w7.heap.size) := hd (fun j hj => (o7.2.2.lt j hj).2)
      clear V5h ho6 hk6 A6 B6 X6 r7 o7 s7 k7 g7 A5k B5 O5 HOF Z5 HU
      obtain ⟨va, vn, vp, hv7⟩ : ∃ va vn vp, v7 = Value.slice va vn vp := by
        obtain ⟨a, c, h⟩ := O7.out.len
        exact ⟨_, _, _, h⟩
      subst hv7
      have d3 := A7.out.cell 3
      simp at d3
      go_wp2_with (at_builtin; refine wpList_append_run _ rfl _ _ _ _ rfl _ _ rfl rfl _ w7 R7.out ?_)
      refine (T1.out w7).mono ?_
      rintro e w8 ⟨a8, cp8, rfl, ho8, hk8⟩
      rw [HN2.out] at ho8 ⊢
      have A8 := hd (A7.out.keep hk8)
      have B8 := hd (below_below B7.out hk8)
      have O8 := hd (O7.out.keep hk8)
      have X8 := hd (ho8.weaken (A' := fun b => w7.heap.size ≤ b ∧ b < w8.heap.size) (fun b hb h => ⟨h, hb⟩))
      have Z8 := hd hk8.size
      clear ho8 hk8 d3 A7 B7 O7 R7 T1
      have d4 := A8.out.cell 4
      simp at d4
      go_wp2_with fail
      refine (T2.out w8).mono ?_
      rintro e w9 ⟨a9, cp9, rfl, ho9, hk9⟩
      rw [HN3.out] at ho9 ⊢
      have A9 := hd (A8.out.keep hk9)
      have B9 := hd (below_below B8.out hk9)
      have O9 := hd (O8.out.keep hk9)
      have X8b := hd (X8.out.keepB hk9)
      have X9 := hd (ho9.weaken (A' := fun b => w7.heap.size ≤ b ∧ b < w9.heap.size) (fun b hb h => ⟨Nat.le_trans Z8.out h, hb⟩))
      have Z9 := hd (Nat.le_trans Z8.out hk9.size)
      have Y9 := hd hk9.size
      clear ho9 hk9 d4 A8 B8 O8 T2 X8
      have d7 := A9.out.cell 7
      simp at d7
      go_wp2_with fail
      refine (T3.out w9).mono ?_
      rintro e w10 ⟨a10, cp10, rfl, ho10, hk10⟩
      rw [HN4.out] at ho10 ⊢
      have A10 := hd (A9.out.keep hk10)
      have B10 := hd (below_below B9.out hk10)
      have O10 := hd (O9.out.keep hk10)
      have X8c := hd (X8b.out.keepB hk10)
      have X9b := hd (X9.out.keepB hk10)
      have X10 := hd (ho10.weaken (A' := fun b => w7.heap.size ≤ b ∧ b < w10.heap.size) (fun b hb h => ⟨Nat.le_trans Z9.out h, hb⟩))
      have Z10 := hd (Nat.le_trans Z9.out hk10.size)
      have Y10 := hd hk10.size
      clear ho10 hk10 d7 A9 B9 O9 T3 X8b X9
      have d8 := A10.out.cell 8
      simp at d8
      go_wp2_with fail
      refine (T4.out w10 (HE.out.keep B10.out)).mono ?_
      rintro e w11 ⟨a11, cp11, rfl, ho11, hk11⟩
      rw [HN5.out] at ho11 ⊢
      have B11 := hd (below_below B10.out hk11)
      have O11 := hd (O10.out.keep hk11)
      have z9 := Y9.out
      have z10 := Y10.out
      have z11 := hk11.size
      have X8d := (X8c.out.keepB hk11).weaken (A' := fun b => w7.heap.size ≤ b ∧ b < w11.heap.size) (fun b hb h => ⟨h.1, by omega⟩)
      have X9c := (X9b.out.keepB hk11).weaken (A' := fun b => w7.heap.size ≤ b ∧ b < w11.heap.size) (fun b hb h => ⟨h.1, by omega⟩)
      have X10b := (X10.out.keepB hk11).weaken (A' := fun b => w7.heap.size ≤ b ∧ b < w11.heap.size) (fun b hb h => ⟨h.1, by omega⟩)
      have X11 := ho11.bs.weaken (A' := fun b => w7.heap.size ≤ b ∧ b < w11.heap.size) (fun b hb h => ⟨Nat.le_trans Z10.out h, hb⟩)
      have hl1 := HLL.out
      have hl2 := HLE.out
      have hl3 := HL0.out
      have hl4 : ([ag, sq, (n : Int)] : List Int).length = 3 := rfl
      have hl5 := HN0.out
      obtain ⟨v1, y1, r1, o1, s1, k1, g1⟩ := append_far (ty := 26) O11.out X8d B11.out.size (Nat.le_refl _) (fun j hj => Or.inl (HF7.out j hj)) (by simp only [List.length_append]; omega)
      obtain ⟨v2, y2, r2, o2, s2, k2, g2⟩ := append_far (ty := 26) o1 (X9c.keep k1 (fun b hb h => fun hh => hh h)) (Nat.le_trans B11.out.size s1.size) s1.size g1 (by simp only [List.length_append]; omega)
      obtain ⟨v3, y3, r3, o3, s3, k3, g3⟩ := append_far (ty := 26) o2 ((X10b.keep k1 (fun b hb h => fun hh => hh h)).keep k2 (fun b hb h => fun hh => hh h)) (Nat.le_trans B11.out.size (Nat.le_trans s1.size s2.size)) (Nat.le_trans s1.size s2.size) g2 (by simp only [List.length_append]; omega)
      obtain ⟨v4, y4, r4, o4, s4, k4, g4⟩ := append_far (ty := 26) o3 (((X11.keep k1 (fun b hb h => fun hh => hh h)).keep k2 (fun b hb h => fun hh => hh h)).keep k3 (fun b hb h => fun hh => hh h)) (Nat.le_trans B11.out.size (Nat.le_trans s1.size (Nat.le_trans s2.size s3.size))) (Nat.le_trans s1.size (Nat.le_trans s2.size s3.size)) g3 (by simp only [List.length_append]; omega)
      have B12 := hd ((((B11.out.trans s1).trans s2).trans s3).trans s4)
      have O12 : Hid (Ow w1.heap.size y4 v4 (L0 ++ spsB (spd (qs.take (k + 1))))) := hd (by
        rw [HT2.out]
        simpa only [List.append_assoc] using o4)
      have R1 := hd r1; have R2 := hd r2; have R3 := hd r3; have R4 := hd r4
      clear r1 r2 r3 r4 o1 o2 o3 o4 s1 s2 s3 s4 k1 k2 k3 k4 g1 g2 g3 g4 hl1 hl2 hl3 hl4 hl5 X8d X9c X10b X11 z9 z10 z11 ho11 hk11 d8 O11 B11 X8c X9b X10 Z8 Z9 Z10 Y9 Y10 HF7 A10 O10 B10
      go_wp2_with (at_builtin; first | refine wpList_append_run _ rfl _ _ _ _ rfl _ _ rfl rfl v1 y1 R1.out ?_ | refine wpList_append_run _ rfl _ _ _ _ rfl _ _ rfl rfl v2 y2 R2.out ?_ | refine wpList_append_run _ rfl _ _ _ _ rfl _ _ rfl rfl v3 y3 R3.out ?_ | refine wpList_append_run _ rfl _ _ _ _ rfl _ _ rfl rfl v4 y4 R4.out ?_)
      go_roundw
      case rel => exact ⟨k + 1, by omega, by go_num, B12.out, O12.out⟩
      case measure => simp [intOf]; omega
    · have hkn' : k = n := by omega
      have hnl : ¬ (k : Int) < (n : Int) := by omega
      have ho := HO1
      rw [show qs.take k = qs from List.take_of_length_le (by rw [HN.out]; omega), ← HBP.out] at ho
      subst hkn'
      clear HO1
      go_wp2_with fail
      go_ret
      obtain ⟨a', c', he⟩ := ho.out.len
      injection he with e1 e2 e3
      subst e1 e2 e3
      exact ⟨oa, oc, rfl, ho.out.lower B1.out.size, B1.out.trans (HB.out.mono B1.out.size)⟩

end Go.Proofs.Yteifaipbckhoiaa

namespace Go.Proofs.Yteifaipbckhoiaa
open Go.RowKit
set_option linter.unusedVariables false

theorem okB_if {b : BatchD} {c : Int} (hc : (if okB b then (0 : Int) else 90) = c) (h : okB b = true → False) : c = 90 := by
  cases hb : okB b with
  | false => rw [hb] at hc; exact hc.symm
  | true => exact (h hb).elim
theorem okB_mk {ag sq : Int} {qs : List SpanV} (h1 : 1 ≤ ag ∧ ag ≤ 16) (h2 : 1 ≤ sq ∧ sq ≤ 9007199254740991) (h3 : 1 ≤ qs.length ∧ qs.length ≤ 16) (h4 : ∀ q ∈ qs, okS q.1 = true) (h5 : (batB ⟨ag, sq, spd qs⟩).length ≤ 8192) : okB ⟨ag, sq, spd qs⟩ = true := by
  unfold okB
  simp only [Bool.and_eq_true, decide_eq_true_eq, List.all_eq_true, spd_len]
  refine ⟨⟨⟨⟨h1, h2⟩, h3⟩, fun s hs => ?_⟩, h5⟩
  obtain ⟨q, hq, rfl⟩ := List.mem_map.1 hs
  exact h4 q hq
theorem okB_sp {ag sq : Int} {qs : List SpanV} (h : okB ⟨ag, sq, spd qs⟩ = true) : ∀ q ∈ qs, okS q.1 = true := fun q hq => (okB_parts h).2.2.2.1 q.1 (List.mem_map.2 ⟨q, hq, rfl⟩)

set_option maxRecDepth 100000 in
set_option maxHeartbeats 8000000 in
theorem rcheckB_any {w : World} {c : Value} {qs : List SpanV} {ag sq : Int} (h : Sps w c qs) (hw : ∀ q ∈ qs, WfS q.1) :
    Calls Try.prog 15 #[.agg #[.int .i64 ag, .int .i64 sq, c]] w fun e w' => VEnd w (.int .i64 (if okB ⟨ag, sq, spd qs⟩ then 0 else 90)) e w' := by
  obtain ⟨x0, cap, rfl⟩ := h.el.form
  obtain ⟨n, hn⟩ : ∃ n, qs.length = n := ⟨_, rfl⟩
  rw [hn] at h ⊢
  obtain ⟨z, hz⟩ : ∃ z : Int, (if okB ⟨ag, sq, spd qs⟩ then (0 : Int) else 90) = z := ⟨_, rfl⟩
  rw [hz]
  have HN := hd hn
  have HW := hd hw
  have HS0 := hd h
  have HZ := hd hz
  clear hn hw h hz
  by_cases h1 : ag < 1
  · go_enter Try.func15, Try.ntmps15
    go_wp2_with fail
    go_ret
    exact VEnd.eq (VEnd.mk (below1 _ _)) (by rw [okB_if HZ.out (fun hb => by have := (okB_parts hb).1; simp only at this; omega)]; rfl)
  by_cases h2 : 16 < ag
  · go_enter Try.func15, Try.ntmps15
    go_wp2_with fail
    go_ret
    exact VEnd.eq (VEnd.mk (below1 _ _)) (by rw [okB_if HZ.out (fun hb => by have := (okB_parts hb).1; simp only at this; omega)]; rfl)
  go_enter Try.func15, Try.ntmps15
  go_wp2_with fail
  have A1 := Bk.new w 24 #[Value.int IntKind.i64 ag, Value.int IntKind.i64 sq, Value.slice x0 n cap]
  have BB := below1 w (Obj.cells #[Value.int IntKind.i64 ag, Value.int IntKind.i64 sq, Value.slice x0 n cap] 24)
  have S1 := hd (HS0.out.keep BB)
  have B1 := hd BB
  clear BB HS0
  generalize w.alloc (Obj.cells #[Value.int IntKind.i64 ag, Value.int IntKind.i64 sq, Value.slice x0 n cap] 24) = w1 at *
  refine (rin_any sq 1 w1).mono ?_
  rintro e w1 ⟨rfl, rfl⟩
  have b2 := A1.cell 2
  simp at b2
  have A1h := hd A1
  have HAG := hd (And.intro h1 h2)
  clear A1 h1 h2
  cases h3 : inB sq 1
  · have H3 := hd h3
    clear h3
    go_wp2_with fail
    go_ret
    exact VEnd.eq (VEnd.mk B1.out) (by rw [okB_if HZ.out (fun hb => by have := (okB_parts hb).2.1; have h := H3.out; rw [← inB_is, decide_eq_false_iff_not] at h; exact h this)]; rfl)
  have H3 := hd h3
  clear h3
  by_cases h4 : (n : Int) < 1
  · go_wp2_with fail
    go_ret
    exact VEnd.eq (VEnd.mk B1.out) (by rw [okB_if HZ.out (fun hb => by have := (okB_parts hb).2.2.1; simp only [spd_len] at this; have := HN.out; omega)]; rfl)
  by_cases h5 : (16 : Int) < (n : Int)
  · go_wp2_with fail
    go_ret
    exact VEnd.eq (VEnd.mk B1.out) (by rw [okB_if HZ.out (fun hb => by have := (okB_parts hb).2.2.1; simp only [spd_len] at this; have := HN.out; omega)]; rfl)
  go_wp2_with fail
  have h16 : n ≤ 16 := by omega
  have HNN : Hid (1 ≤ n ∧ n ≤ 16) := hd (by omega)
  clear b2
  go_loopw [3] (fun i wr => ∃ k : Nat, k ≤ n ∧ i = .int .i64 (k : Int) ∧ Below w1.heap.size w1 wr ∧ ∀ q ∈ qs.take k, okS q.1 = true) (fun i _ => n - (intOf i).toNat)
  case atStart => exact ⟨0, Nat.zero_le _, rfl, Below.refl _ _, fun q hq => by rw [List.take_zero] at hq; cases hq⟩
  case round =>
    obtain ⟨k, hkn, rfl, hb, hs⟩ := hrel
    have HB := hd hb
    have HK := hd hs
    have AK := hd (A1h.out.keep hb)
    have b0 := AK.out.cell 0
    have b1 := AK.out.cell 1
    have b2 := AK.out.cell 2
    simp at b0 b1 b2
    clear hb hs
    by_cases hlt : k < n
    · have hlz : (k : Int) < (n : Int) := by omega
      have hxk : k < qs.length := by rw [HN.out]; exact hlt
      obtain ⟨⟨⟨tr, sid, pa, st, ln, sv, op, sb, ats⟩, v⟩, he1⟩ : ∃ r : SpanV, qs[k]'(by omega) = r := ⟨_, rfl⟩
      obtain ⟨g, off, hx, hc, h47, c0, c1, c2, c3, c4, c5, c6, c7, c8, hel⟩ := S1.out.atS HB.out HN.out hlt he1
      subst hx
      have HM : Hid ((⟨tr, sid, pa, st, ln, sv, op, sb, ats⟩, v) ∈ qs) := hd (by rw [← he1]; exact List.getElem_mem hxk)
      have HT : Hid (∀ q ∈ qs.take (k + 1), okS q.1 = true ∨ q = (⟨tr, sid, pa, st, ln, sv, op, sb, ats⟩, v)) := hd (by
        intro q hq
        rw [List.take_succ_eq_append_getElem hxk, he1] at hq
        rcases List.mem_append.1 hq with hq | hq
        · exact Or.inl (HK.out q hq)
        · exact Or.inr (by simpa using hq))
      have HE := hd (hel.keep HB.out)
      clear he1 hxk hel
      go_wp2_with fail
      refine (rcheckS_cells tr sid pa st ln sv op sb ats v wr HE.out).mono ?_
      rintro e w5 ⟨rfl, hk⟩
      have B5 := hd (below_below HB.out hk)
      clear hk c0 c1 c2 c3 c4 c5 c6 c7 c8 b0 b1 b2 AK HB HE
      cases ho : okS ⟨tr, sid, pa, st, ln, sv, op, sb, ats⟩
      · have HO := hd ho
        clear ho
        go_wp2_with fail
        go_ret
        exact VEnd.eq (VEnd.mk (below_below B1.out B5.out)) (by rw [okB_if HZ.out (fun hb => by have h := okB_sp hb _ HM.out; have h2 := HO.out; simp only at h; rw [h2] at h; cases h)]; rfl)
      · have HO := hd ho
        clear ho
        go_wp2_with fail
        go_roundw
        case rel => exact ⟨k + 1, by omega, by go_num, B5.out, fun q hq => by
          rcases HT.out q hq with h | rfl
          · exact h
          · exact HO.out⟩
        case measure => simp [intOf]; omega
    · have hkn' : k = n := by omega
      have hnl : ¬ (k : Int) < (n : Int) := by omega
      have HAll : Hid (∀ q ∈ qs, okS q.1 = true) := hd (fun q hq => HK.out q (by rw [List.take_of_length_le (by rw [HN.out]; omega)]; exact hq))
      subst hkn'
      clear HK
      go_wp2_with fail
      refine (rwrite_ok (S1.out.keep HB.out) (by have := HAG.out; omega) (by have := inB_t H3.out; omega) (by have := HNN.out; have := HN.out; omega) (fun q hq => Fit.of (HAll.out q hq) (HW.out q hq))).mono ?_
      rintro e w6 ⟨a6, cp6, rfl, ho, hk⟩
      have B6 := hd (below_below (below_below B1.out HB.out) hk)
      obtain ⟨m, hm⟩ : ∃ m, (batB ⟨ag, sq, spd qs⟩).length = m := ⟨_, rfl⟩
      have HM := hd hm
      rw [hm]
      clear ho hk hm b0 b1 b2 AK HB
      by_cases h8 : (8192 : Int) < (m : Int)
      · go_wp2_with fail
        go_ret
        exact VEnd.eq (VEnd.mk B6.out) (by rw [okB_if HZ.out (fun hb => by have := (okB_parts hb).2.2.2.2; have := HM.out; omega)]; rfl)
      · go_wp2_with fail
        go_ret
        exact VEnd.eq (VEnd.mk B6.out) (by
          rw [← HZ.out, okB_mk (by have := HAG.out; omega) (inB_t H3.out) (by rw [HN.out]; exact HNN.out) HAll.out (by rw [HM.out]; omega)]
          rfl)

end Go.Proofs.Yteifaipbckhoiaa

namespace Go.Proofs.Yteifaipbckhoiaa
open Go.RowKit
set_option linter.unusedVariables false

set_option maxRecDepth 100000 in
set_option maxHeartbeats 4000000 in
theorem rbytesB_any {w : World} {c : Value} {qs : List SpanV} {ag sq : Int} (h : Sps w c qs) (hw : ∀ q ∈ qs, WfS q.1) :
    Calls Try.prog 11 #[.agg #[.int .i64 ag, .int .i64 sq, c]] w fun e w' => BEnd w (if okB ⟨ag, sq, spd qs⟩ then batB ⟨ag, sq, spd qs⟩ else []) (if okB ⟨ag, sq, spd qs⟩ then 0 else 90) e w' := by
  obtain ⟨x0, cap, rfl⟩ := h.el.form
  obtain ⟨n, hn⟩ : ∃ n, qs.length = n := ⟨_, rfl⟩
  rw [hn] at h ⊢
  obtain ⟨L, hL⟩ : ∃ L, (if okB ⟨ag, sq, spd qs⟩ then batB ⟨ag, sq, spd qs⟩ else []) = L := ⟨_, rfl⟩
  obtain ⟨z, hz⟩ : ∃ z : Int, (if okB ⟨ag, sq, spd qs⟩ then (0 : Int) else 90) = z := ⟨_, rfl⟩
  rw [hL, hz]
  have HL := hd hL
  have HZ := hd hz
  have HW := hd hw
  have HS0 := hd h
  clear hw h hL hz
  go_enter Try.func11, Try.ntmps11
  go_wp2_with fail
  have A1 := Bk.new w 24 #[Value.int IntKind.i64 ag, Value.int IntKind.i64 sq, Value.slice x0 n cap]
  have BB := below1 w (Obj.cells #[Value.int IntKind.i64 ag, Value.int IntKind.i64 sq, Value.slice x0 n cap] 24)
  have S1 := hd (HS0.out.keep BB)
  have B1 := hd BB
  clear BB HS0
  generalize w.alloc (Obj.cells #[Value.int IntKind.i64 ag, Value.int IntKind.i64 sq, Value.slice x0 n cap] 24) = w1 at *
  refine (rcheckB_any S1.out HW.out).mono ?_
  rintro e w2 ⟨rfl, hk⟩
  have A2 := A1.keep hk
  have B2 := hd (below_below B1.out hk)
  have S2 := hd (S1.out.keep hk)
  have b0 := A2.cell 0
  have b1 := A2.cell 1
  have b2 := A2.cell 2
  simp at b0 b1 b2
  clear hk A1 A2 B1 S1
  cases ho : okB ⟨ag, sq, spd qs⟩
  · have hl := HL.out
    have hz := HZ.out
    rw [ho] at hl hz
    simp only [Bool.false_eq_true, if_false] at hl hz
    subst hl
    subst hz
    clear ho HL HZ
    simp only [Bool.false_eq_true, if_false]
    go_wp2_with fail
    go_ret2
    exact ⟨none, 0, 0, rfl, rfl, ⟨Byt.nil, Nat.zero_le _, World.ownsRow_nil _ _ 5 1⟩, B2.out⟩
  · have HO := hd ho
    have hl := HL.out
    have hz := HZ.out
    rw [ho] at hl hz
    simp only [if_true] at hl hz
    subst hz
    clear ho HL HZ
    simp only [if_true]
    have hp := okB_parts HO.out
    have h1 := hp.1
    have h2 := hp.2.1
    have h3 := hp.2.2.1
    simp only [spd_len] at h1 h2 h3
    have HR := hd (rwrite_ok S2.out (ag := ag) (sq := sq) (by omega) (by omega) h3.2 (fun q hq => Fit.of (okB_sp HO.out q hq) (HW.out q hq)))
    rw [hl] at HR
    clear hp h1 h2 h3 hl
    obtain ⟨m, hm⟩ : ∃ m, L.length = m := ⟨_, rfl⟩
    rw [hm] at HR
    have HM := hd hm
    clear hm
    go_wp2_with fail
    refine HR.out.mono ?_
    rintro e w6 ⟨a6, cp6, rfl, ho, hk⟩
    have B6 := hd (below_below B2.out hk)
    have O6 := hd (ho.lower B2.out.size)
    clear ho hk b0 b1 b2
    go_wp2_with fail
    go_ret2
    exact ⟨a6, m, cp6, rfl, HM.out, O6.out, B6.out⟩

end Go.Proofs.Yteifaipbckhoiaa
