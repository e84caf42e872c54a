/- The program's within, mayBe. The program's fields: numbers, texts, one behind the other. The program's span, CheckSpan. The program's Bytes, Check of batches. -/
import Derived.Test.YteifaipbckhoiabPn
import Derived.Test.YteifaipbckhoiabRd
import Derived.Test.YteifaipbckhoiabAl
import Derived.Test.YteifaipbckhoiabCat
import Derived.Test.YteifaipbckhoiabAw
namespace Go.Proofs.Yteifaipbckhoiab
open Go.RowKit
set_option linter.unusedVariables false

def inW (n a b : Int) : Bool := decide (a ≤ n) && decide (n ≤ b)
theorem inW_t {n a b : Int} (h : inW n a b = true) : a ≤ n ∧ n ≤ b := by unfold inW at h; simpa using h
theorem inW_f {n a b : Int} (h : inW n a b = false) : ¬ (a ≤ n ∧ n ≤ b) := fun k => by
  unfold inW at h
  rw [decide_eq_true k.1, decide_eq_true k.2] at h
  cases h
theorem inW_eq (n a b : Int) : inW n a b = decide (a ≤ n ∧ n ≤ b) := by unfold inW; rw [Bool.decide_and]
set_option maxHeartbeats 400000 in
theorem within_any (n a b : Int) (w : World) : Calls Try.prog 17 #[.int .i64 n, .int .i64 a, .int .i64 b] w fun e w' => e = .returned (.bool (inW n a b)) ∧ w' = w := by
  unfold inW
  by_cases h1 : a ≤ n
  · by_cases h2 : n ≤ b
    · rw [decide_eq_true h1, decide_eq_true h2]
      go_enter Try.func17, Try.ntmps17
      go_wp2
      go_ret
      exact ⟨rfl, rfl⟩
    · rw [decide_eq_true h1, decide_eq_false h2]
      go_enter Try.func17, Try.ntmps17
      go_wp2
      go_ret
      exact ⟨rfl, rfl⟩
  · rw [decide_eq_false h1]
    go_enter Try.func17, Try.ntmps17
    go_wp2
    go_ret
    exact ⟨rfl, rfl⟩

/-- May the span be, but for its attributes? -/
def mayP (s : SpanD) : Bool := inW s.tr 1 9007199254740991 && inW s.sid 1 9007199254740991 && inW s.pa 0 9007199254740991 && isNm s.sv && isNm s.op && inW s.st 0 9007199254740991 && inW s.ln 0 (9007199254740991 - s.st) && decide (s.sb.size ≤ 64)
theorem okS_may (s : SpanD) : okS s = (mayP s && okAs s.ats) := by
  unfold okS mayP
  simp only [inW_eq]
  by_cases h : (0 ≤ s.st ∧ s.st ≤ 9007199254740991)
  · have e : decide (0 ≤ s.ln ∧ s.ln ≤ 9007199254740991 - s.st) = (decide (0 ≤ s.ln ∧ s.ln ≤ 9007199254740991) && decide (s.st + s.ln ≤ 9007199254740991)) := by
      rw [← Bool.decide_and]
      exact decide_eq_decide.2 ⟨fun k => by omega, fun k => by omega⟩
    rw [e, decide_eq_true h]
    generalize decide (1 ≤ s.tr ∧ s.tr ≤ 9007199254740991) = a
    generalize decide (1 ≤ s.sid ∧ s.sid ≤ 9007199254740991) = b
    generalize decide (0 ≤ s.pa ∧ s.pa ≤ 9007199254740991) = c
    generalize decide (0 ≤ s.ln ∧ s.ln ≤ 9007199254740991) = d
    generalize decide (s.st + s.ln ≤ 9007199254740991) = f
    generalize isNm s.sv = g
    generalize isNm s.op = k
    cases a <;> cases b <;> cases c <;> cases d <;> cases f <;> cases g <;> cases k <;> rfl
  · rw [decide_eq_false h]
    simp

set_option maxRecDepth 100000 in
set_option maxHeartbeats 8000000 in
theorem mayBe_cells (tr sid pa st ln : Int) (sv op sb : ByteArray) (ats : List AttrD) (v : Value) (w : World) :
    Calls Try.prog 33 #[.agg #[Value.int IntKind.i64 tr, Value.int IntKind.i64 sid, Value.int IntKind.i64 pa, Value.string sv, Value.string op, Value.int IntKind.i64 st, Value.int IntKind.i64 ln, Value.string sb, v]] w fun e w' => VEnd w (.bool (mayP ⟨tr, sid, pa, st, ln, sv, op, sb, ats⟩)) e w' := by
  obtain ⟨c, hc⟩ : ∃ c : Bool, mayP ⟨tr, sid, pa, st, ln, sv, op, sb, ats⟩ = c := ⟨_, rfl⟩
  rw [hc]
  unfold mayP at hc
  simp only at hc
  have HC := hd hc
  clear hc
  go_enter Try.func33, Try.ntmps33
  go_wp2_with fail
  have A1 := Bk.new w 36 #[Value.int IntKind.i64 tr, Value.int IntKind.i64 sid, Value.int IntKind.i64 pa, Value.string sv, Value.string op, Value.int IntKind.i64 st, Value.int IntKind.i64 ln, Value.string sb, v]
  have B1 := hd (below1 w (Obj.cells #[Value.int IntKind.i64 tr, Value.int IntKind.i64 sid, Value.int IntKind.i64 pa, Value.string sv, Value.string op, Value.int IntKind.i64 st, Value.int IntKind.i64 ln, Value.string sb, v] 36))
  generalize w.alloc (Obj.cells #[Value.int IntKind.i64 tr, Value.int IntKind.i64 sid, Value.int IntKind.i64 pa, Value.string sv, Value.string op, Value.int IntKind.i64 st, Value.int IntKind.i64 ln, Value.string sb, v] 36) = w1 at *
  have c0 := A1.cell 0
  have c1 := A1.cell 1
  have c2 := A1.cell 2
  have c3 := A1.cell 3
  have c4 := A1.cell 4
  have c5 := A1.cell 5
  have c6 := A1.cell 6
  have c7 := A1.cell 7
  have c8 := A1.cell 8
  simp at c0 c1 c2 c3 c4 c5 c6 c7 c8
  have HA := hd A1
  clear A1 c8
  refine (within_any tr 1 9007199254740991 w1).mono ?_
  rintro e w1 ⟨rfl, rfl⟩
  cases h0 : inW tr 1 9007199254740991
  · have H0 := hd h0
    clear h0
    go_wp2_with fail
    go_ret
    exact VEnd.eq (VEnd.mk B1.out) (by rw [← HC.out, H0.out]; rfl)
  · have H0 := hd h0
    clear h0
    go_wp2_with fail
    refine (within_any sid 1 9007199254740991 w1).mono ?_
    rintro e w1 ⟨rfl, rfl⟩
    cases h1 : inW sid 1 9007199254740991
    · have H1 := hd h1
      clear h1
      go_wp2_with fail
      go_ret
      exact VEnd.eq (VEnd.mk B1.out) (by rw [← HC.out, H0.out, H1.out]; rfl)
    · have H1 := hd h1
      clear h1
      go_wp2_with fail
      refine (within_any pa 0 9007199254740991 w1).mono ?_
      rintro e w1 ⟨rfl, rfl⟩
      cases h2 : inW pa 0 9007199254740991
      · have H2 := hd h2
        clear h2
        go_wp2_with fail
        go_ret
        exact VEnd.eq (VEnd.mk B1.out) (by rw [← HC.out, H0.out, H1.out, H2.out]; rfl)
      · have H2 := hd h2
        clear h2
        go_wp2_with fail
        refine (isname_any sv w1).mono ?_
        rintro e w2 ⟨rfl, hk⟩
        have B2 := hd (below_below B1.out hk)
        have A2 := hd (HA.out.keep hk)
        clear hk B1 HA c0 c1 c2 c3 c4 c5 c6 c7
        cases h3 : isNm sv
        · have H3 := hd h3
          clear h3
          go_wp2_with fail
          go_ret
          exact VEnd.eq (VEnd.mk B2.out) (by rw [← HC.out, H0.out, H1.out, H2.out, H3.out]; rfl)
        · have H3 := hd h3
          clear h3
          have c4 := A2.out.cell 4
          simp at c4
          go_wp2_with fail
          refine (isname_any op w2).mono ?_
          rintro e w3 ⟨rfl, hk⟩
          have B3 := hd (below_below B2.out hk)
          have A3 := hd (A2.out.keep hk)
          clear hk B2 A2 c4
          cases h4 : isNm op
          · have H4 := hd h4
            clear h4
            go_wp2_with fail
            go_ret
            exact VEnd.eq (VEnd.mk B3.out) (by rw [← HC.out, H0.out, H1.out, H2.out, H3.out, H4.out]; rfl)
          · have H4 := hd h4
            clear h4
            have c5 := A3.out.cell 5
            have c6 := A3.out.cell 6
            have c7 := A3.out.cell 7
            simp at c5 c6 c7
            go_wp2_with fail
            refine (within_any st 0 9007199254740991 w3).mono ?_
            rintro e w3 ⟨rfl, rfl⟩
            cases h5 : inW st 0 9007199254740991
            · have H5 := hd h5
              clear h5
              go_wp2_with fail
              go_ret
              exact VEnd.eq (VEnd.mk B3.out) (by rw [← HC.out, H0.out, H1.out, H2.out, H3.out, H4.out, H5.out]; rfl)
            · have H5 := hd h5
              clear h5
              obtain ⟨d, hD⟩ : ∃ d : Int, 9007199254740991 - st = d := ⟨_, rfl⟩
              have hs : IntKind.i64.wrap (9007199254740991 - st) = d := by have h1 := inW_t H5.out; rw [IntKind.wrap_i64]; omega
              have HC2 := HC
              clear HC
              have HC : Hid _ := hd (by have h := HC2.out; rw [hD] at h; exact h)
              clear HC2
              have HD := hd hD
              clear hD
              go_wp2_with fail
              clear hs
              refine (within_any ln 0 d w3).mono ?_
              rintro e w3 ⟨rfl, rfl⟩
              cases h6 : inW ln 0 d
              · have H6 := hd h6
                clear h6
                go_wp2_with fail
                go_ret
                exact VEnd.eq (VEnd.mk B3.out) (by rw [← HC.out, H0.out, H1.out, H2.out, H3.out, H4.out, H5.out, H6.out]; rfl)
              · have H6 := hd h6
                clear h6
                obtain ⟨m, hm⟩ : ∃ m, sb.size = m := ⟨_, rfl⟩
                by_cases h8 : m ≤ 64
                · have H8 : Hid (decide (sb.size ≤ 64) = true) := hd (by rw [hm]; exact decide_eq_true h8)
                  have h8n : (m : Int) ≤ (64 : Int) := by omega
                  go_wp2_with fail
                  go_ret
                  exact VEnd.eq (VEnd.mk B3.out) (by rw [← HC.out, H0.out, H1.out, H2.out, H3.out, H4.out, H5.out, H6.out, H8.out]; rfl)
                · have H8 : Hid (decide (sb.size ≤ 64) = false) := hd (by rw [hm]; exact decide_eq_false h8)
                  have h8n : decide ((m : Int) ≤ (64 : Int)) = false := decide_eq_false (by omega)
                  go_wp2_with fail
                  go_ret
                  exact VEnd.eq (VEnd.mk B3.out) (by rw [← HC.out, H0.out, H1.out, H2.out, H3.out, H4.out, H5.out, H6.out, H8.out]; rfl)

end Go.Proofs.Yteifaipbckhoiab

namespace Go.Proofs.Yteifaipbckhoiab
open Go.RowKit
set_option linter.unusedVariables false

def txs : List ByteArray → List Int
  | [] => []
  | x :: t => txB x ++ txs t
theorem txs_app (a b : List ByteArray) : txs (a ++ b) = txs a ++ txs b := by
  induction a with
  | nil => rfl
  | cons x t ih =>
    show txB x ++ txs (t ++ b) = (txB x ++ txs t) ++ txs b
    rw [ih, List.append_assoc]
theorem txs_take {l : List ByteArray} {k : Nat} (h : k < l.length) : txs (l.take (k + 1)) = txs (l.take k) ++ txB l[k] := by
  rw [List.take_succ_eq_append_getElem h, txs_app]
  show _ ++ (txB l[k] ++ []) = _
  rw [List.append_nil]
theorem txB_sz {s : ByteArray} (h : s.size ≤ 65535) : (txB s).length ≤ 65543 := by
  unfold txB
  rw [List.length_append, bytesOf_length]
  have h1 := Num.enc_length (s.size : Int)
  have h2 := Num.sz_bd (s.size : Int) (by omega)
  omega
theorem Text_tx (s : ByteArray) (w : World) (h : s.size ≤ 65535) : Calls Try.prog 36 #[.string s] w fun e w' => MadeEnd w (txB s) e w' := Text_ok s w h
theorem txs_len : ∀ {l : List ByteArray}, (∀ x ∈ l, x.size ≤ 65535) → (txs l).length ≤ 65543 * l.length
  | [], _ => Nat.zero_le _
  | x :: t, h => by
    have h1 := txB_sz (h x (List.mem_cons_self ..))
    have ih := txs_len (l := t) (fun y hy => h y (List.mem_cons_of_mem _ hy))
    show (txB x ++ txs t).length ≤ 65543 * (t.length + 1)
    rw [List.length_append]
    omega

set_option maxRecDepth 100000 in
set_option maxHeartbeats 4000000 in
theorem fieldsI_ok {w : World} {b n : Nat} {l : List Int} (hl : l.length = n) (hn : n ≤ 100) (hc : ∀ j (hj : j < l.length), w.cell? ⟨b, j, none⟩ = some (.int .i64 l[j])) (hr : ∀ x ∈ l, 0 ≤ x ∧ x ≤ 9007199254740991) :
    Calls Try.prog 18 #[.func (.func 19) #[] #[], .slice (some ⟨b, 0, none⟩) n n] w fun e w' => ∃ a cap, e = .returned (.slice a (encs l).length cap) ∧ Ow w.heap.size w' (.slice a (encs l).length cap) (encs l) ∧ Below w.heap.size w w' := by
  have HL := hd hl
  have HC := hd hc
  have HR := hd hr
  have HN := hd hn
  clear hl hc hr hn
  go_enter Try.func18, Try.ntmps18
  go_wp2_with fail
  go_loopw [5, 7, 8, 9, 12] (fun o _ _ _ i wr => ∃ k : Nat, k ≤ n ∧ i = .int .i64 (k : Int) ∧ Below w.heap.size w wr ∧ Ow w.heap.size wr o (encs (l.take k))) (fun _ _ _ _ i _ => n - (intOf i).toNat)
  case atStart => exact ⟨0, Nat.zero_le _, rfl, Below.refl _ _, Byt.nil, Nat.zero_le _, World.ownsRow_nil w _ 5 1⟩
  case round =>
    obtain ⟨k, hkn, rfl, hb, hs⟩ := hrel
    have HB := hd hb
    have HO1 := hd hs
    obtain ⟨oa, on, oc, hov⟩ : ∃ oa on oc, u5 = Value.slice oa on oc := by
      obtain ⟨a, c, h⟩ := hs.len
      exact ⟨_, _, _, h⟩
    subst hov
    by_cases hlt : k < n
    · have hlz : (k : Int) < (n : Int) := by omega
      have hn100 := HN.out
      have hxk : k < l.length := by rw [HL.out]; exact hlt
      obtain ⟨x, hx⟩ : ∃ x, l[k] = x := ⟨_, rfl⟩
      have c0 := (below_cell hb (World.block_lt_of_cell? w _ (HC.out k hxk))).trans (HC.out k hxk)
      rw [hx] at c0
      have HX : Hid (0 ≤ x ∧ x ≤ 9007199254740991) := hd (by rw [← hx]; exact HR.out _ (List.getElem_mem hxk))
      have HT : Hid (encs (l.take (k + 1)) = encs (l.take k) ++ Num.enc x) := hd (by rw [← hx]; exact encs_take hxk)
      have HLE : Hid ((encs (l.take k)).length + (Num.enc x).length ≤ 140737488355328) := hd (by
        have h1 := encs_len (l := l.take k) (fun y hy => HR.out y (List.mem_of_mem_take hy))
        have h2 := (show (Num.enc x).length ≤ 8 by have h2 := Num.enc_length x; have h3 := Num.sz_bd x HX.out.1; omega)
        rw [List.length_take] at h1
        have h4 := HN.out
        have h5 := HL.out
        omega)
      clear hb hs hx hxk
      go_wp2_with fail
      refine (U_ow x wr HX.out.1 HX.out.2).mono ?_
      rintro e w5 ⟨a5, cap5, rfl, ho5, hk5⟩
      have hbd := HLE.out
      obtain ⟨n5, hn5⟩ : ∃ q, (Num.enc x).length = q := ⟨_, rfl⟩
      rw [hn5] at ho5 ⊢
      have B5 := below_below HB.out hk5
      have HBZ := HB.out.size
      obtain ⟨v6, w6, hr6, o6, k6⟩ := append_ow (HO1.out.keep hk5) (ow_bx ho5) ho5.1 B5.size hbd 27
      have R6 := hd hr6
      have O6 := hd o6
      have B6 := hd (B5.trans k6)
      clear ho5 hk5 hbd B5 hr6 o6 k6 hn5 c0 HO1 HB HBZ
      go_wp2_with (at_builtin; refine wpList_append_run _ rfl _ _ _ _ rfl _ _ rfl rfl _ w6 R6.out ?_)
      go_roundw
      case rel => exact ⟨k + 1, by omega, by go_num, B6.out, by rw [HT.out]; exact O6.out⟩
      case measure => simp [intOf]; omega
    · have hkn' : k = n := by omega
      have hnl : ¬ (k : Int) < (n : Int) := by omega
      have ho := HO1
      rw [show l.take k = l from List.take_of_length_le (by rw [HL.out]; omega)] at ho
      subst hkn'
      clear hb hs HO1
      go_wp2_with fail
      go_ret
      obtain ⟨a', c', he⟩ := ho.out.len
      injection he with e1 e2 e3
      subst e1 e2 e3
      exact ⟨oa, oc, rfl, ho.out, HB.out⟩

set_option maxRecDepth 100000 in
set_option maxHeartbeats 4000000 in
theorem fieldsS_ok {w : World} {b n : Nat} {l : List ByteArray} (hl : l.length = n) (hn : n ≤ 100) (hc : ∀ j (hj : j < l.length), w.cell? ⟨b, j, none⟩ = some (.string l[j])) (hr : ∀ x ∈ l, x.size ≤ 65535) :
    Calls Try.prog 35 #[.func (.func 36) #[] #[], .slice (some ⟨b, 0, none⟩) n n] w fun e w' => ∃ a cap, e = .returned (.slice a (txs l).length cap) ∧ Ow w.heap.size w' (.slice a (txs l).length cap) (txs l) ∧ Below w.heap.size w w' := by
  have HL := hd hl
  have HC := hd hc
  have HR := hd hr
  have HN := hd hn
  clear hl hc hr hn
  go_enter Try.func35, Try.ntmps35
  go_wp2_with fail
  go_loopw [5, 7, 8, 9, 12] (fun o _ _ _ i wr => ∃ k : Nat, k ≤ n ∧ i = .int .i64 (k : Int) ∧ Below w.heap.size w wr ∧ Ow w.heap.size wr o (txs (l.take k))) (fun _ _ _ _ i _ => n - (intOf i).toNat)
  case atStart => exact ⟨0, Nat.zero_le _, rfl, Below.refl _ _, Byt.nil, Nat.zero_le _, World.ownsRow_nil w _ 5 1⟩
  case round =>
    obtain ⟨k, hkn, rfl, hb, hs⟩ := hrel
    have HB := hd hb
    have HO1 := hd hs
    obtain ⟨oa, on, oc, hov⟩ : ∃ oa on oc, u5 = Value.slice oa on oc := by
      obtain ⟨a, c, h⟩ := hs.len
      exact ⟨_, _, _, h⟩
    subst hov
    by_cases hlt : k < n
    · have hlz : (k : Int) < (n : Int) := by omega
      have hn100 := HN.out
      have hxk : k < l.length := by rw [HL.out]; exact hlt
      obtain ⟨x, hx⟩ : ∃ x, l[k] = x := ⟨_, rfl⟩
      have c0 := (below_cell hb (World.block_lt_of_cell? w _ (HC.out k hxk))).trans (HC.out k hxk)
      rw [hx] at c0
      have HX : Hid (x.size ≤ 65535) := hd (by rw [← hx]; exact HR.out _ (List.getElem_mem hxk))
      have HT : Hid (txs (l.take (k + 1)) = txs (l.take k) ++ txB x) := hd (by rw [← hx]; exact txs_take hxk)
      have HLE : Hid ((txs (l.take k)).length + (txB x).length ≤ 140737488355328) := hd (by
        have h1 := txs_len (l := l.take k) (fun y hy => HR.out y (List.mem_of_mem_take hy))
        have h2 := txB_sz HX.out
        rw [List.length_take] at h1
        have h4 := HN.out
        have h5 := HL.out
        omega)
      clear hb hs hx hxk
      go_wp2_with fail
      refine (Text_tx x wr HX.out).mono ?_
      rintro e w5 ⟨a5, cap5, rfl, ho5, hk5⟩
      have hbd := HLE.out
      obtain ⟨n5, hn5⟩ : ∃ q, (txB x).length = q := ⟨_, rfl⟩
      rw [hn5] at ho5 ⊢
      have B5 := below_below HB.out hk5
      have HBZ := HB.out.size
      have X5 := Bs.weaken (A' := fun b => wr.heap.size ≤ b ∧ b < w5.heap.size) ho5 (fun b hb h => ⟨h, hb⟩)
      obtain ⟨v6, w6, hr6, o6, k6, _, _⟩ := append_far (ty := 27) (HO1.out.keep hk5) X5 B5.size (Nat.le_refl _) (fun j hj => Or.inl (HO1.out.2.2.lt j hj).2) hbd
      clear X5
      have R6 := hd hr6
      have O6 := hd o6
      have B6 := hd (B5.trans k6)
      clear ho5 hk5 hbd B5 hr6 o6 k6 hn5 c0 HO1 HB HBZ
      go_wp2_with (at_builtin; refine wpList_append_run _ rfl _ _ _ _ rfl _ _ rfl rfl _ w6 R6.out ?_)
      go_roundw
      case rel => exact ⟨k + 1, by omega, by go_num, B6.out, by rw [HT.out]; exact O6.out⟩
      case measure => simp [intOf]; omega
    · have hkn' : k = n := by omega
      have hnl : ¬ (k : Int) < (n : Int) := by omega
      have ho := HO1
      rw [show l.take k = l from List.take_of_length_le (by rw [HL.out]; omega)] at ho
      subst hkn'
      clear hb hs HO1
      go_wp2_with fail
      go_ret
      obtain ⟨a', c', he⟩ := ho.out.len
      injection he with e1 e2 e3
      subst e1 e2 e3
      exact ⟨oa, oc, rfl, ho.out, HB.out⟩

end Go.Proofs.Yteifaipbckhoiab

namespace Go.Proofs.Yteifaipbckhoiab
open Go.RowKit
set_option linter.unusedVariables false

set_option maxRecDepth 100000 in
set_option maxHeartbeats 8000000 in
theorem span_bad (tr sid pa st ln : Int) (sv op sb : ByteArray) (ats : List AttrD) (v : Value) (w : World) (hel : El encA 6 w v ats) (ho : okS ⟨tr, sid, pa, st, ln, sv, op, sb, ats⟩ = false) :
    Calls Try.prog 20 #[.agg #[Value.int IntKind.i64 tr, Value.int IntKind.i64 sid, Value.int IntKind.i64 pa, Value.string sv, Value.string op, Value.int IntKind.i64 st, Value.int IntKind.i64 ln, Value.string sb, v]] w fun e w' => VEnd w (.tuple #[.slice none 0 0, .int .i64 90]) e w' := by
  obtain ⟨vx, vc, rfl⟩ := hel.form
  obtain ⟨m, hm⟩ : ∃ m, ats.length = m := ⟨_, rfl⟩
  rw [hm] at hel ⊢
  rw [okS_may] at ho
  simp only at ho
  have HO := hd ho
  have HEL := hd hel
  clear ho hel hm
  go_enter Try.func20, Try.ntmps20
  go_wp2_with fail
  have A1 := Bk.new w 36 #[Value.int IntKind.i64 tr, Value.int IntKind.i64 sid, Value.int IntKind.i64 pa, Value.string sv, Value.string op, Value.int IntKind.i64 st, Value.int IntKind.i64 ln, Value.string sb, Value.slice vx m vc]
  have B1 := hd (below1 w (Obj.cells #[Value.int IntKind.i64 tr, Value.int IntKind.i64 sid, Value.int IntKind.i64 pa, Value.string sv, Value.string op, Value.int IntKind.i64 st, Value.int IntKind.i64 ln, Value.string sb, Value.slice vx m vc] 36))
  have E1 := hd (HEL.out.keep (below1 w (Obj.cells #[Value.int IntKind.i64 tr, Value.int IntKind.i64 sid, Value.int IntKind.i64 pa, Value.string sv, Value.string op, Value.int IntKind.i64 st, Value.int IntKind.i64 ln, Value.string sb, Value.slice vx m vc] 36)))
  clear HEL
  generalize w.alloc (Obj.cells #[Value.int IntKind.i64 tr, Value.int IntKind.i64 sid, Value.int IntKind.i64 pa, Value.string sv, Value.string op, Value.int IntKind.i64 st, Value.int IntKind.i64 ln, Value.string sb, Value.slice vx m vc] 36) = w1 at *
  have c0 := A1.cell 0
  have c1 := A1.cell 1
  have c2 := A1.cell 2
  have c3 := A1.cell 3
  have c4 := A1.cell 4
  have c5 := A1.cell 5
  have c6 := A1.cell 6
  have c7 := A1.cell 7
  have c8 := A1.cell 8
  simp at c0 c1 c2 c3 c4 c5 c6 c7 c8
  have HA := hd A1
  clear A1
  go_wp2_with fail
  refine (mayBe_cells tr sid pa st ln sv op sb ats _ w1).mono ?_
  rintro e w2 ⟨rfl, hk⟩
  have B2 := hd (below_below B1.out hk)
  have A2 := hd (HA.out.keep hk)
  have E2 := hd (E1.out.keep hk)
  clear hk B1 HA E1 c0 c1 c2 c3 c4 c5 c6 c7 c8
  cases h1 : mayP ⟨tr, sid, pa, st, ln, sv, op, sb, ats⟩
  · clear h1
    go_wp2_with fail
    go_ret2
    exact VEnd.mk B2.out
  · have H1 := hd h1
    clear h1
    have c8 := A2.out.cell 8
    simp at c8
    go_wp2_with fail
    refine (attrs_bad E2.out (by have := HO.out; rw [H1.out] at this; exact this)).mono ?_
    rintro e w3 ⟨rfl, hk⟩
    have B3 := hd (below_below B2.out hk)
    clear hk B2 c8 A2 E2
    go_wp2_with fail
    go_ret2
    exact VEnd.mk B3.out

theorem txs3 (a b c : ByteArray) : txs [a, b, c] = txB a ++ (txB b ++ txB c) := by
  unfold txs txs txs txs
  rw [List.append_nil]
theorem spanB_cat (s : SpanD) : spanB s = encs (nums s) ++ txs [s.sv, s.op, s.sb] ++ listB s.ats := by
  rw [spanB_parts, txs3]
  simp only [List.append_assoc]
theorem spanB_pos {s : SpanD} (h : Fit s) : 0 < (spanB s).length := by
  unfold spanB
  rw [List.length_append, Num.enc_length]
  have := Num.sz_bd s.tr h.tr.1
  omega

set_option maxRecDepth 100000 in
set_option maxHeartbeats 8000000 in
theorem span_ok (tr sid pa st ln : Int) (sv op sb : ByteArray) (ats : List AttrD) (v : Value) (w : World) (hel : El encA 6 w v ats) (hw : ∀ a ∈ ats, WfA a) (ho : okS ⟨tr, sid, pa, st, ln, sv, op, sb, ats⟩ = true) :
    Calls Try.prog 20 #[.agg #[Value.int IntKind.i64 tr, Value.int IntKind.i64 sid, Value.int IntKind.i64 pa, Value.string sv, Value.string op, Value.int IntKind.i64 st, Value.int IntKind.i64 ln, Value.string sb, v]] w fun e w' => OwEnd w (spanB ⟨tr, sid, pa, st, ln, sv, op, sb, ats⟩) e w' := by
  obtain ⟨vx, vc, rfl⟩ := hel.form
  obtain ⟨m, hm⟩ : ∃ m, ats.length = m := ⟨_, rfl⟩
  rw [hm] at hel ⊢
  have HFit : Hid (Fit ⟨tr, sid, pa, st, ln, sv, op, sb, ats⟩) := hd (Fit.of ho hw)
  rw [okS_may, Bool.and_eq_true] at ho
  simp only at ho
  have HO1 := hd ho.1
  have HO2 := hd ho.2
  have HW := hd hw
  have HEL := hd hel
  clear ho hel hm hw
  have HSB : Hid (spanB ⟨tr, sid, pa, st, ln, sv, op, sb, ats⟩ = encs [tr, sid, pa, st, ln] ++ txs [sv, op, sb] ++ listB ats) := hd (spanB_cat _)
  have HPOS : Hid (0 < (spanB ⟨tr, sid, pa, st, ln, sv, op, sb, ats⟩).length ∧ (spanB ⟨tr, sid, pa, st, ln, sv, op, sb, ats⟩).length ≤ 1900) := hd ⟨spanB_pos HFit.out, spanB_le HFit.out⟩
  have HR1 : Hid (∀ x ∈ [tr, sid, pa, st, ln], 0 ≤ x ∧ x ≤ 9007199254740991) := hd (nums_rg HFit.out)
  have HR2 : Hid (∀ x ∈ [sv, op, sb], x.size ≤ 65535) := hd (by
    have f := HFit.out
    have h1 := f.sv; have h2 := f.op; have h3 := f.sb
    simp only at h1 h2 h3
    intro x hx
    simp only [List.mem_cons, List.not_mem_nil, or_false] at hx
    rcases hx with rfl | rfl | rfl <;> omega)
  clear HFit
  generalize spanB ⟨tr, sid, pa, st, ln, sv, op, sb, ats⟩ = R at *
  go_enter Try.func20, Try.ntmps20
  go_wp2_with fail
  have A1 := Bk.new w 36 #[Value.int IntKind.i64 tr, Value.int IntKind.i64 sid, Value.int IntKind.i64 pa, Value.string sv, Value.string op, Value.int IntKind.i64 st, Value.int IntKind.i64 ln, Value.string sb, Value.slice vx m vc]
  have B1 := hd (below1 w (Obj.cells #[Value.int IntKind.i64 tr, Value.int IntKind.i64 sid, Value.int IntKind.i64 pa, Value.string sv, Value.string op, Value.int IntKind.i64 st, Value.int IntKind.i64 ln, Value.string sb, Value.slice vx m vc] 36))
  have E1 := hd (HEL.out.keep (below1 w (Obj.cells #[Value.int IntKind.i64 tr, Value.int IntKind.i64 sid, Value.int IntKind.i64 pa, Value.string sv, Value.string op, Value.int IntKind.i64 st, Value.int IntKind.i64 ln, Value.string sb, Value.slice vx m vc] 36)))
  clear HEL
  generalize w.alloc (Obj.cells #[Value.int IntKind.i64 tr, Value.int IntKind.i64 sid, Value.int IntKind.i64 pa, Value.string sv, Value.string op, Value.int IntKind.i64 st, Value.int IntKind.i64 ln, Value.string sb, Value.slice vx m vc] 36) = w1 at *
  have c0 := A1.cell 0
  have c1 := A1.cell 1
  have c2 := A1.cell 2
  have c3 := A1.cell 3
  have c4 := A1.cell 4
  have c5 := A1.cell 5
  have c6 := A1.cell 6
  have c7 := A1.cell 7
  have c8 := A1.cell 8
  simp at c0 c1 c2 c3 c4 c5 c6 c7 c8
  have HA := hd A1
  clear A1
  go_wp2_with fail
  refine (mayBe_cells tr sid pa st ln sv op sb ats _ w1).mono ?_
  rintro e w2 ⟨rfl, hk⟩
  have B2 := hd (below_below B1.out hk)
  have A2 := hd (HA.out.keep hk)
  have E2 := hd (E1.out.keep hk)
  clear hk B1 HA E1 c0 c1 c2 c3 c4 c5 c6 c7 c8
  rw [HO1.out]
  have c8 := A2.out.cell 8
  simp at c8
  go_wp2_with fail
  refine (attrs_ok E2.out HO2.out HW.out).mono ?_
  rintro e w3 ⟨a3, p3, rfl, ho3, hk⟩
  have B3 := hd (below_below B2.out hk)
  have A3 := hd (A2.out.keep hk)
  obtain ⟨n3, hn3⟩ : ∃ n, (listB ats).length = n := ⟨_, rfl⟩
  rw [hn3] at ho3 ⊢
  have HN3 := hd hn3
  have O3 := hd ho3
  clear hk B2 c8 A2 E2 ho3 hn3 HO1 HO2 HW
  have c0 := A3.out.cell 0
  have c1 := A3.out.cell 1
  have c2 := A3.out.cell 2
  have c5 := A3.out.cell 5
  have c6 := A3.out.cell 6
  simp at c0 c1 c2 c5 c6
  go_wp2_with fail
  have NB := below1 w3 (Obj.cells #[Value.int IntKind.i64 tr, Value.int IntKind.i64 sid, Value.int IntKind.i64 pa, Value.int IntKind.i64 st, Value.int IntKind.i64 ln] 3)
  have V4 := hd (Bk.new w3 3 #[Value.int IntKind.i64 tr, Value.int IntKind.i64 sid, Value.int IntKind.i64 pa, Value.int IntKind.i64 st, Value.int IntKind.i64 ln])
  have A4 := hd (A3.out.keep NB)
  have B4 := hd (below_below B3.out NB)
  have O4 := hd (O3.out.keep NB)
  clear NB A3 B3 O3 c0 c1 c2 c5 c6
  generalize w3.alloc (Obj.cells #[Value.int IntKind.i64 tr, Value.int IntKind.i64 sid, Value.int IntKind.i64 pa, Value.int IntKind.i64 st, Value.int IntKind.i64 ln] 3) = w4 at *
  refine (fieldsI_ok (l := [tr, sid, pa, st, ln]) (n := 5) rfl (by omega) (fun j hj => ?_) HR1.out).mono ?_
  · rw [V4.out.cell j]
    match j, hj with
    | 0, _ => rfl
    | 1, _ => rfl
    | 2, _ => rfl
    | 3, _ => rfl
    | 4, _ => rfl
  rintro e w5 ⟨a5, p5, rfl, ho5, hk⟩
  obtain ⟨n5, hn5⟩ : ∃ n, (encs [tr, sid, pa, st, ln]).length = n := ⟨_, rfl⟩
  rw [hn5] at ho5 ⊢
  have HN5 := hd hn5
  have O5b := hd ho5
  have A5 := hd (A4.out.keep hk)
  have B5 := hd (below_below B4.out hk)
  have O5 := hd (O4.out.keep hk)
  clear hk V4 A4 B4 O4 ho5 hn5 HR1
  have c3 := A5.out.cell 3
  have c4 := A5.out.cell 4
  have c7 := A5.out.cell 7
  simp at c3 c4 c7
  go_wp2_with fail
  have NB := below1 w5 (Obj.cells #[Value.string sv, Value.string op, Value.string sb] 9)
  have V6 := hd (Bk.new w5 9 #[Value.string sv, Value.string op, Value.string sb])
  have B6 := hd (below_below B5.out NB)
  have O6 := hd (O5.out.keep NB)
  have O6b := hd (O5b.out.keep NB)
  clear NB A5 B5 O5 O5b c3 c4 c7
  generalize w5.alloc (Obj.cells #[Value.string sv, Value.string op, Value.string sb] 9) = w6 at *
  refine (fieldsS_ok (l := [sv, op, sb]) (n := 3) rfl (by omega) (fun j hj => ?_) HR2.out).mono ?_
  · rw [V6.out.cell j]
    match j, hj with
    | 0, _ => rfl
    | 1, _ => rfl
    | 2, _ => rfl
  rintro e w7 ⟨a7, p7, rfl, ho7, hk⟩
  obtain ⟨n7, hn7⟩ : ∃ n, (txs [sv, op, sb]).length = n := ⟨_, rfl⟩
  rw [hn7] at ho7 ⊢
  have HN7 := hd hn7
  have O7c := hd ho7
  have B7 := hd (below_below B6.out hk)
  have O7 := hd (O6.out.keep hk)
  have O7b := hd (O6b.out.keep hk)
  clear hk V6 B6 O6 O6b ho7 hn7 HR2
  generalize encs [tr, sid, pa, st, ln] = L1 at *
  generalize txs [sv, op, sb] = L2 at *
  generalize listB ats = L3 at *
  go_wp2_with fail
  have NB := below1 w7 (Obj.cells #[Value.slice a5 n5 p5, Value.slice a7 n7 p7, Value.slice a3 n3 p3] 27)
  have A8 := Bk.new w7 27 #[Value.slice a5 n5 p5, Value.slice a7 n7 p7, Value.slice a3 n3 p3]
  have B8 := hd (below_below B7.out NB)
  have X1 := hd (ow_bx (O7b.out.keep NB))
  have X2 := hd (ow_bx (O7c.out.keep NB))
  have X3 := hd (ow_bx (O7.out.keep NB))
  have Y1 := hd O7b.out.1
  have Y2 := hd O7c.out.1
  have Y3 := hd O7.out.1
  clear NB B7 O7 O7b O7c
  generalize w7.alloc (Obj.cells #[Value.slice a5 n5 p5, Value.slice a7 n7 p7, Value.slice a3 n3 p3] 27) = w8 at *
  have d0 := A8.cell 0
  have d1 := A8.cell 1
  have d2 := A8.cell 2
  simp at d0 d1 d2
  have HLN : Hid (R.length = n5 + n7 + n3) := hd (by rw [HSB.out, List.length_append, List.length_append, HN5.out, HN7.out, HN3.out])
  refine (concat3 d0 d1 d2 X1.out X2.out X3.out Y1.out Y2.out Y3.out HN5.out HN7.out HN3.out (n := R.length) HLN.out.symm HPOS.out.1 (by have := HPOS.out.2; omega) A8.lt).mono ?_
  rintro e w9 ⟨a9, p9, rfl, ho9, hk9⟩
  rw [← HSB.out] at ho9
  have HO9 := hd ho9
  have HK9 := hd (below_below B8.out hk9)
  have HZ9 := hd B8.out.size
  obtain ⟨r, hr⟩ : ∃ r, R.length = r := ⟨_, rfl⟩
  have HRL := hd hr
  rw [hr] at HO9 ⊢
  clear ho9 hk9 d0 d1 d2 A8 X1 X2 X3 hr
  go_wp2_with fail
  go_ret2
  refine ⟨a9, p9, ?_, ?_, HK9.out⟩
  · rw [HRL.out]; rfl
  · rw [HRL.out]; exact HO9.out.lower HZ9.out

def ckSI (b : Bool) : Int := if b then 0 else 90
end Go.Proofs.Yteifaipbckhoiab

namespace Go.Proofs.Yteifaipbckhoiab
open Go.RowKit
set_option linter.unusedVariables false

set_option maxRecDepth 100000 in
set_option maxHeartbeats 8000000 in
theorem bytesB_any {w : World} {c : Value} {qs : List SpanV} {ag sq : Int} (h : Sps w c qs) (hw : ∀ q ∈ qs, WfS q.1) :
    Calls Try.prog 7 #[.agg #[.int .i64 ag, .int .i64 sq, c]] w fun e w' => BEnd w (if okB ⟨ag, sq, spd qs⟩ then batB ⟨ag, sq, spd qs⟩ else []) (if okB ⟨ag, sq, spd qs⟩ then 0 else 90) e w' := by
  obtain ⟨x0, cap, rfl⟩ := h.el.form
  obtain ⟨n, hn⟩ : ∃ n, qs.length = n := ⟨_, rfl⟩
  rw [hn] at h ⊢
  obtain ⟨L, hL⟩ : ∃ L, (if okB ⟨ag, sq, spd qs⟩ then batB ⟨ag, sq, spd qs⟩ else []) = L := ⟨_, rfl⟩
  obtain ⟨z, hz⟩ : ∃ z : Int, (if okB ⟨ag, sq, spd qs⟩ then (0 : Int) else 90) = z := ⟨_, rfl⟩
  rw [hL, hz]
  have hbp := batB_parts ⟨ag, sq, spd qs⟩
  simp only [spd_len] at hbp
  rw [hn] at hbp
  have HBP := hd hbp
  have HL := hd hL
  have HZ := hd hz
  have HW := hd hw
  have HN := hd hn
  have HS0 := hd h
  clear hw h hL hz hn hbp
  go_enter Try.func7, Try.ntmps7
  go_wp2_with fail
  have A1 := Bk.new w 24 #[Value.int IntKind.i64 ag, Value.int IntKind.i64 sq, Value.slice x0 n cap]
  have BB := below1 w (Obj.cells #[Value.int IntKind.i64 ag, Value.int IntKind.i64 sq, Value.slice x0 n cap] 24)
  have S1 := hd (HS0.out.keep BB)
  have B1 := hd BB
  clear BB
  generalize w.alloc (Obj.cells #[Value.int IntKind.i64 ag, Value.int IntKind.i64 sq, Value.slice x0 n cap] 24) = w1 at *
  have b1 := A1.cell 1
  have b2 := A1.cell 2
  simp at b1 b2
  have A1h := hd A1
  clear A1
  refine (within_any ag 1 16 w1).mono ?_
  rintro e w1 ⟨rfl, rfl⟩
  cases h1 : inW ag 1 16
  · have H1 := hd h1
    clear h1
    have hb : okB ⟨ag, sq, spd qs⟩ = false := Bool.eq_false_iff.2 (fun hb => by exact inW_f H1.out (okB_parts hb).1)
    have hl := HL.out
    have hz := HZ.out
    rw [hb] at hl hz
    simp only [Bool.false_eq_true, if_false] at hl hz
    subst hl
    subst hz
    clear hb HL HZ
    go_wp2_with fail
    go_ret2
    exact ⟨none, 0, 0, rfl, rfl, ⟨Byt.nil, Nat.zero_le _, World.ownsRow_nil _ _ 5 1⟩, B1.out⟩
  have H1 := hd h1
  clear h1
  go_wp2_with fail
  refine (within_any sq 1 9007199254740991 w1).mono ?_
  rintro e w1 ⟨rfl, rfl⟩
  cases h2 : inW sq 1 9007199254740991
  · have H2 := hd h2
    clear h2
    have hb : okB ⟨ag, sq, spd qs⟩ = false := Bool.eq_false_iff.2 (fun hb => by exact inW_f H2.out (okB_parts hb).2.1)
    have hl := HL.out
    have hz := HZ.out
    rw [hb] at hl hz
    simp only [Bool.false_eq_true, if_false] at hl hz
    subst hl
    subst hz
    clear hb HL HZ
    go_wp2_with fail
    go_ret2
    exact ⟨none, 0, 0, rfl, rfl, ⟨Byt.nil, Nat.zero_le _, World.ownsRow_nil _ _ 5 1⟩, B1.out⟩
  have H2 := hd h2
  clear h2
  go_wp2_with fail
  refine (within_any (n : Int) 1 16 w1).mono ?_
  rintro e w1 ⟨rfl, rfl⟩
  cases h3 : inW (n : Int) 1 16
  · have H3 := hd h3
    clear h3
    have hb : okB ⟨ag, sq, spd qs⟩ = false := Bool.eq_false_iff.2 (fun hb => by have h := (okB_parts hb).2.2.1; simp only [spd_len] at h; rw [HN.out] at h; exact inW_f H3.out (by omega))
    have hl := HL.out
    have hz := HZ.out
    rw [hb] at hl hz
    simp only [Bool.false_eq_true, if_false] at hl hz
    subst hl
    subst hz
    clear hb HL HZ
    go_wp2_with fail
    go_ret2
    exact ⟨none, 0, 0, rfl, rfl, ⟨Byt.nil, Nat.zero_le _, World.ownsRow_nil _ _ 5 1⟩, B1.out⟩
  have H3 : Hid (1 ≤ n ∧ n ≤ 16) := hd (by have := inW_t h3; omega)
  clear h3
  have b0 := A1h.out.cell 0
  simp at b0
  go_wp2_with fail
  have NB := below1 w1 (Obj.cells #[Value.int IntKind.i64 ag, Value.int IntKind.i64 sq, Value.int IntKind.i64 (n : Int)] 3)
  have V2 := hd (Bk.new w1 3 #[Value.int IntKind.i64 ag, Value.int IntKind.i64 sq, Value.int IntKind.i64 (n : Int)])
  have A2 := hd (A1h.out.keep NB)
  have B2 := hd (below_below B1.out NB)
  have S2 := hd (S1.out.keep NB)
  clear NB A1h B1 S1 b0 b1 b2
  generalize w1.alloc (Obj.cells #[Value.int IntKind.i64 ag, Value.int IntKind.i64 sq, Value.int IntKind.i64 (n : Int)] 3) = w2 at *
  have HR : Hid (∀ x ∈ [ag, sq, (n : Int)], 0 ≤ x ∧ x ≤ 9007199254740991) := hd (by
    have h1 := inW_t H1.out
    have h2 := inW_t H2.out
    have h3 := H3.out
    intro x hx
    simp only [List.mem_cons, List.not_mem_nil, or_false] at hx
    rcases hx with rfl | rfl | rfl <;> omega)
  have HL0 := hd (encs_len HR.out)
  refine (fieldsI_ok (l := [ag, sq, (n : Int)]) (n := 3) rfl (by omega) (fun j hj => ?_) HR.out).mono ?_
  · rw [V2.out.cell j]
    match j, hj with
    | 0, _ => rfl
    | 1, _ => rfl
    | 2, _ => rfl
  rintro e w3 ⟨a3, p3, rfl, ho3, hk⟩
  have A3 := hd (A2.out.keep hk)
  have B3 := hd (below_below B2.out hk)
  have S3 := hd (S2.out.keep hk)
  have O3 := hd (ho3.lower B2.out.size)
  clear V2 A2 B2 S2 ho3 hk HR
  generalize hL0 : encs [ag, sq, (n : Int)] = L0 at *
  obtain ⟨n0, hn0⟩ : ∃ n, L0.length = n := ⟨_, rfl⟩
  rw [hn0] at O3 ⊢
  have HN0 := hd hn0
  clear hL0 hn0
  have b2 := A3.out.cell 2
  simp at b2
  go_wp2_with fail
  clear b2 A3
  go_loopw [4, 7, 8, 38] (fun o _ _ i wr => ∃ k : Nat, k ≤ n ∧ i = .int .i64 (k : Int) ∧ Below w.heap.size w wr ∧ Ow w.heap.size wr o (L0 ++ spsB (spd (qs.take k))) ∧ ∀ q ∈ qs.take k, okS q.1 = true) (fun _ _ _ i _ => n - (intOf i).toNat)
  case atStart => exact ⟨0, Nat.zero_le _, rfl, B3.out, by rw [List.take_zero]; show Ow _ _ _ (L0 ++ []); rw [List.append_nil]; exact O3.out, fun q hq => by rw [List.take_zero] at hq; cases hq⟩
  case round =>
    obtain ⟨k, hkn, rfl, hb, hs, hq⟩ := hrel
    have HB := hd hb
    have HO1 := hd hs
    have HK := hd hq
    obtain ⟨oa, on, oc, hov⟩ : ∃ oa on oc, u4 = Value.slice oa on oc := by
      obtain ⟨a, c, h⟩ := hs.len
      exact ⟨_, _, _, h⟩
    subst hov
    clear hb hs hq O3
    by_cases hlt : k < n
    · have hlz : (k : Int) < (n : Int) := by omega
      have hxk : k < qs.length := by rw [HN.out]; exact hlt
      obtain ⟨⟨⟨tr, sid, pa, st, ln, sv, op, sb, ats⟩, v⟩, he1⟩ : ∃ r : SpanV, qs[k]'(by omega) = r := ⟨_, rfl⟩
      obtain ⟨g, off, hx, hc, h47, c0, c1, c2, c3, c4, c5, c6, c7, c8, hel⟩ := HS0.out.atS HB.out HN.out hlt he1
      subst hx
      obtain ⟨vx, vc, hv⟩ := hel.form
      obtain ⟨m, hm⟩ : ∃ m, ats.length = m := ⟨_, rfl⟩
      rw [hm] at hv
      subst hv
      have HM : Hid ((⟨tr, sid, pa, st, ln, sv, op, sb, ats⟩, Value.slice vx m vc) ∈ qs) := hd (by rw [← he1]; exact List.getElem_mem hxk)
      have HKS : Hid (∀ q ∈ qs.take (k + 1), okS q.1 = true ∨ q = (⟨tr, sid, pa, st, ln, sv, op, sb, ats⟩, Value.slice vx m vc)) := hd (by
        intro q hq
        rw [List.take_succ_eq_append_getElem hxk, he1] at hq
        rcases List.mem_append.1 hq with hq | hq
        · exact Or.inl (HK.out q hq)
        · exact Or.inr (by simpa using hq))
      have HT : Hid (spsB (spd (qs.take (k + 1))) = spsB (spd (qs.take k)) ++ spanB ⟨tr, sid, pa, st, ln, sv, op, sb, ats⟩) := hd (by have := spsB_snoc hxk; rw [he1] at this; exact this)
      have HLE : Hid ((spsB (spd (qs.take k))).length ≤ 1900 * 16) := hd (by
        have h1 := spsB_le (xs := spd (qs.take k)) (fun s hs => by
          obtain ⟨q, hq, rfl⟩ := List.mem_map.1 hs
          exact Fit.of (HK.out q hq) (HW.out q (List.mem_of_mem_take hq)))
        have h3 := H3.out
        rw [spd_len, List.length_take] at h1
        omega)
      have HE := hd (hel.keep HB.out)
      clear he1 hxk hel hm
      go_wp2_with fail
      have NB := below1 wr (Obj.cells #[Value.int IntKind.i64 tr, Value.int IntKind.i64 sid, Value.int IntKind.i64 pa, Value.string sv, Value.string op, Value.int IntKind.i64 st, Value.int IntKind.i64 ln, Value.string sb, Value.slice vx m vc] 36)
      have B4 := hd (below_below HB.out NB)
      have E4 := hd (HE.out.keep NB)
      have O4 := hd (HO1.out.keep NB)
      clear NB HB HE HO1 c0 c1 c2 c3 c4 c5 c6 c7 c8
      generalize wr.alloc (Obj.cells #[Value.int IntKind.i64 tr, Value.int IntKind.i64 sid, Value.int IntKind.i64 pa, Value.string sv, Value.string op, Value.int IntKind.i64 st, Value.int IntKind.i64 ln, Value.string sb, Value.slice vx m vc] 36) = w4 at *
      cases ho : okS ⟨tr, sid, pa, st, ln, sv, op, sb, ats⟩
      · have HO := hd ho
        refine (span_bad tr sid pa st ln sv op sb ats _ w4 E4.out ho).mono ?_
        rintro e w5 ⟨rfl, hk⟩
        have B5 := hd (below_below B4.out hk)
        clear hk ho
        have hb : okB ⟨ag, sq, spd qs⟩ = false := Bool.eq_false_iff.2 (fun hb => by have h := okB_sp hb _ HM.out; have h2 := HO.out; simp only at h; rw [h2] at h; cases h)
        have hl := HL.out
        have hz := HZ.out
        rw [hb] at hl hz
        simp only [Bool.false_eq_true, if_false] at hl hz
        subst hl
        subst hz
        clear hb HL HZ
        go_wp2_with fail
        go_ret2
        exact ⟨none, 0, 0, rfl, rfl, ⟨Byt.nil, Nat.zero_le _, World.ownsRow_nil _ _ 5 1⟩, B5.out⟩
      · have HO := hd ho
        have HW1 := HW.out _ HM.out
        have HSL := hd (spanB_le (Fit.of ho HW1))
        refine (span_ok tr sid pa st ln sv op sb ats _ w4 E4.out HW1 ho).mono ?_
        clear HW1 ho
        rintro e w5 ⟨a5, p5, rfl, ho5, hk⟩
        generalize spanB ⟨tr, sid, pa, st, ln, sv, op, sb, ats⟩ = R5 at *
        obtain ⟨n5, hn5⟩ : ∃ n, R5.length = n := ⟨_, rfl⟩
        rw [hn5] at ho5 ⊢
        have B5 := below_below B4.out hk
        obtain ⟨v6, w6, hr6, o6, k6⟩ := append_ow (O4.out.keep hk) (ow_bx ho5) ho5.1 B5.size (by
          have h1 := HLE.out
          have h2 := HSL.out
          have h3 := HL0.out
          have h4 : ([ag, sq, (n : Int)] : List Int).length = 3 := rfl
          rw [List.length_append]
          omega) 27
        have R6 := hd hr6
        have O6 := hd o6
        have B6 := hd (B5.trans k6)
        clear hk ho5 B5 hr6 o6 k6 hn5 B4 E4 O4
        go_wp2_with (at_builtin; refine wpList_append_run _ rfl _ _ _ _ rfl _ _ rfl rfl _ w6 R6.out ?_)
        go_roundw
        case rel => exact ⟨k + 1, by omega, by go_num, B6.out, by rw [HT.out, ← List.append_assoc]; exact O6.out, fun q hq => by
          rcases HKS.out q hq with h | rfl
          · exact h
          · exact HO.out⟩
        case measure => simp [intOf]; omega
    · have hkn' : k = n := by omega
      have hnl : ¬ (k : Int) < (n : Int) := by omega
      have hall : ∀ q ∈ qs, okS q.1 = true := fun q hq => HK.out q (by rw [List.take_of_length_le (by rw [HN.out]; omega)]; exact hq)
      have HAll := hd hall
      have ho := HO1
      rw [show qs.take k = qs from List.take_of_length_le (by rw [HN.out]; omega), ← HBP.out] at ho
      subst hkn'
      clear HK HO1 hall
      obtain ⟨a', c', he⟩ := ho.out.len
      injection he with e1 e2 e3
      clear e1 e3
      have HON := hd e2
      clear e2
      have B6 := HB
      by_cases h8 : (8192 : Int) < (on : Int)
      · have hb : okB ⟨ag, sq, spd qs⟩ = false := Bool.eq_false_iff.2 (fun hb => by have h := (okB_parts hb).2.2.2.2; have := HON.out; omega)
        have hl := HL.out
        have hz := HZ.out
        rw [hb] at hl hz
        simp only [Bool.false_eq_true, if_false] at hl hz
        subst hl
        subst hz
        clear hb HL HZ
        go_wp2_with fail
        go_ret2
        exact ⟨none, 0, 0, rfl, rfl, ⟨Byt.nil, Nat.zero_le _, World.ownsRow_nil _ _ 5 1⟩, B6.out⟩
      · have hb : okB ⟨ag, sq, spd qs⟩ = true := okB_mk (inW_t H1.out) (inW_t H2.out) (by rw [HN.out]; exact H3.out) HAll.out (by have := HON.out; omega)
        have hl := HL.out
        have hz := HZ.out
        rw [hb] at hl hz
        simp only [if_true] at hl hz
        subst hz
        have O6 : Hid (Ow w.heap.size wr (Value.slice oa on oc) L ∧ L.length = on) := hd (by rw [hl] at ho HON; exact ⟨ho.out, HON.out.symm⟩)
        clear hb HL HZ hl ho HON HBP
        go_wp2_with fail
        go_ret2
        exact ⟨oa, on, oc, rfl, O6.out.2, O6.out.1, B6.out⟩

set_option maxRecDepth 100000 in
set_option maxHeartbeats 4000000 in
theorem checkB_any {w : World} {c : Value} {qs : List SpanV} {ag sq : Int} (h : Sps w c qs) (hw : ∀ q ∈ qs, WfS q.1) :
    Calls Try.prog 11 #[.agg #[.int .i64 ag, .int .i64 sq, c]] w fun e w' => VEnd w (.int .i64 (if okB ⟨ag, sq, spd qs⟩ then 0 else 90)) e w' := by
  obtain ⟨x0, cap, rfl⟩ := h.el.form
  obtain ⟨n, hn⟩ : ∃ n, qs.length = n := ⟨_, rfl⟩
  rw [hn] at h ⊢
  have HB := hd (bytesB_any (ag := ag) (sq := sq) (h.keep (below1 w (Obj.cells #[Value.int IntKind.i64 ag, Value.int IntKind.i64 sq, Value.slice x0 n cap] 24))) hw)
  generalize (if okB ⟨ag, sq, spd qs⟩ then batB ⟨ag, sq, spd qs⟩ else []) = L at *
  generalize (if okB ⟨ag, sq, spd qs⟩ then (0 : Int) else 90) = z at *
  clear h hw hn
  go_enter Try.func11, Try.ntmps11
  go_wp2_with fail
  refine HB.out.mono ?_
  rintro e w2 ⟨a, m, p, rfl, hm, ho, hk⟩
  have B2 := hd (below_below (below1 w (Obj.cells #[Value.int IntKind.i64 ag, Value.int IntKind.i64 sq, Value.slice x0 n cap] 24)) hk)
  clear hm ho hk HB
  go_wp2_with fail
  go_ret
  exact VEnd.mk B2.out

end Go.Proofs.Yteifaipbckhoiab
