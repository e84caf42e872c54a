/- The document's SameSpan. Same, the program's and the document's. Same of spans' lists, of batches. -/
import Derived.Test.YteifaipbckhoiabRd
import Derived.Test.YteifaipbckhoiabSm8
import Derived.Test.YteifaipbckhoiabRe
import Derived.Test.YteifaipbckhoiabVs
namespace Go.Proofs.Yteifaipbckhoiab
open Go.RowKit
set_option linter.unusedVariables false

def sameS (a b : SpanD) : Bool := a.tr == b.tr && a.sid == b.sid && a.pa == b.pa && eqs a.sv b.sv && eqs a.op b.op && a.st == b.st && a.ln == b.ln && eqs a.sb b.sb && sameL sameA a.ats b.ats

set_option maxRecDepth 100000 in
set_option maxHeartbeats 8000000 in
theorem rsameS_cells (tr sid pa st ln tr2 sid2 pa2 st2 ln2 : Int) (sv op sb sv2 op2 sb2 : ByteArray) (ats ats2 : List AttrD) (v u : Value) (w : World) (hx : El encA 6 w v ats) (hy : El encA 6 w u ats2) :
    Calls Try.prog 47 #[.agg #[Value.int IntKind.i64 tr, Value.int IntKind.i64 sid, Value.int IntKind.i64 pa, Value.string sv, Value.string op, Value.int IntKind.i64 st, Value.int IntKind.i64 ln, Value.string sb, v], .agg #[Value.int IntKind.i64 tr2, Value.int IntKind.i64 sid2, Value.int IntKind.i64 pa2, Value.string sv2, Value.string op2, Value.int IntKind.i64 st2, Value.int IntKind.i64 ln2, Value.string sb2, u]] w fun e w' => VEnd w (.bool (sameS ⟨tr, sid, pa, st, ln, sv, op, sb, ats⟩ ⟨tr2, sid2, pa2, st2, ln2, sv2, op2, sb2, ats2⟩)) e w' := by
  obtain ⟨vx, vc, rfl⟩ := hx.form
  obtain ⟨ux, uc, rfl⟩ := hy.form
  obtain ⟨c, hc⟩ : ∃ c, sameS ⟨tr, sid, pa, st, ln, sv, op, sb, ats⟩ ⟨tr2, sid2, pa2, st2, ln2, sv2, op2, sb2, ats2⟩ = c := ⟨_, rfl⟩
  rw [hc]
  obtain ⟨m, hm⟩ : ∃ m, ats.length = m := ⟨_, rfl⟩
  obtain ⟨q, hq⟩ : ∃ q, ats2.length = q := ⟨_, rfl⟩
  rw [hm] at hx ⊢
  rw [hq] at hy ⊢
  have HC := hd hc
  clear hc hm hq
  have k2 := below1 (w.alloc (Obj.cells #[Value.int IntKind.i64 tr, Value.int IntKind.i64 sid, Value.int IntKind.i64 pa, Value.string sv, Value.string op, Value.int IntKind.i64 st, Value.int IntKind.i64 ln, Value.string sb, Value.slice vx m vc] 36)) (Obj.cells #[Value.int IntKind.i64 tr2, Value.int IntKind.i64 sid2, Value.int IntKind.i64 pa2, Value.string sv2, Value.string op2, Value.int IntKind.i64 st2, Value.int IntKind.i64 ln2, Value.string sb2, Value.slice ux q uc] 36)
  have A1 := (Bk.new w 36 #[Value.int IntKind.i64 tr, Value.int IntKind.i64 sid, Value.int IntKind.i64 pa, Value.string sv, Value.string op, Value.int IntKind.i64 st, Value.int IntKind.i64 ln, Value.string sb, Value.slice vx m vc]).keep k2
  have BB := below2 w (Obj.cells #[Value.int IntKind.i64 tr, Value.int IntKind.i64 sid, Value.int IntKind.i64 pa, Value.string sv, Value.string op, Value.int IntKind.i64 st, Value.int IntKind.i64 ln, Value.string sb, Value.slice vx m vc] 36) (Obj.cells #[Value.int IntKind.i64 tr2, Value.int IntKind.i64 sid2, Value.int IntKind.i64 pa2, Value.string sv2, Value.string op2, Value.int IntKind.i64 st2, Value.int IntKind.i64 ln2, Value.string sb2, Value.slice ux q uc] 36)
  have HX := hd (hx.keep BB)
  have HY := hd (hy.keep BB)
  have B2 := hd BB
  clear hx hy k2 BB
  have c0 := A1.cell 0
  have c1 := A1.cell 1
  have c2 := A1.cell 2
  have c3 := A1.cell 3
  have c4 := A1.cell 4
  have c5 := A1.cell 5
  have c6 := A1.cell 6
  have c7 := A1.cell 7
  have c8 := A1.cell 8
  simp at c0 c1 c2 c3 c4 c5 c6 c7 c8
  clear A1
  by_cases h_tr : tr = tr2
  case neg =>
    have e1 : (tr == tr2) = false := beq_eq_false_iff_ne.2 h_tr
    have HE := hd e1
    go_enter Try.func47, Try.ntmps47
    go_wp2_with fail
    go_ret
    exact VEnd.eq (VEnd.mk B2.out) (by rw [← HC.out]; unfold sameS; simp [HE.out])
  subst h_tr
  by_cases h_sid : sid = sid2
  case neg =>
    have e1 : (sid == sid2) = false := beq_eq_false_iff_ne.2 h_sid
    have HE := hd e1
    go_enter Try.func47, Try.ntmps47
    go_wp2_with fail
    go_ret
    exact VEnd.eq (VEnd.mk B2.out) (by rw [← HC.out]; unfold sameS; simp [HE.out])
  subst h_sid
  by_cases h_pa : pa = pa2
  case neg =>
    have e1 : (pa == pa2) = false := beq_eq_false_iff_ne.2 h_pa
    have HE := hd e1
    go_enter Try.func47, Try.ntmps47
    go_wp2_with fail
    go_ret
    exact VEnd.eq (VEnd.mk B2.out) (by rw [← HC.out]; unfold sameS; simp [HE.out])
  subst h_pa
  by_cases h_sv : sv = sv2
  case neg =>
    have e0 : eqs sv sv2 = false := eqs_false h_sv
    have e1 : (sv.toList == sv2.toList) = false := by rw [eqs_toList]; exact e0
    have e2 : ¬ sv.toList = sv2.toList := beq_eq_false_iff_ne.1 e1
    have HE := hd e0
    clear e0
    go_enter Try.func47, Try.ntmps47
    go_wp2_with fail
    go_ret
    exact VEnd.eq (VEnd.mk B2.out) (by rw [← HC.out]; unfold sameS; simp [HE.out])
  subst h_sv
  by_cases h_op : op = op2
  case neg =>
    have e0 : eqs op op2 = false := eqs_false h_op
    have e1 : (op.toList == op2.toList) = false := by rw [eqs_toList]; exact e0
    have e2 : ¬ op.toList = op2.toList := beq_eq_false_iff_ne.1 e1
    have HE := hd e0
    clear e0
    go_enter Try.func47, Try.ntmps47
    go_wp2_with fail
    go_ret
    exact VEnd.eq (VEnd.mk B2.out) (by rw [← HC.out]; unfold sameS; simp [HE.out])
  subst h_op
  by_cases h_st : st = st2
  case neg =>
    have e1 : (st == st2) = false := beq_eq_false_iff_ne.2 h_st
    have HE := hd e1
    go_enter Try.func47, Try.ntmps47
    go_wp2_with fail
    go_ret
    exact VEnd.eq (VEnd.mk B2.out) (by rw [← HC.out]; unfold sameS; simp [HE.out])
  subst h_st
  by_cases h_ln : ln = ln2
  case neg =>
    have e1 : (ln == ln2) = false := beq_eq_false_iff_ne.2 h_ln
    have HE := hd e1
    go_enter Try.func47, Try.ntmps47
    go_wp2_with fail
    go_ret
    exact VEnd.eq (VEnd.mk B2.out) (by rw [← HC.out]; unfold sameS; simp [HE.out])
  subst h_ln
  by_cases h_sb : sb = sb2
  case neg =>
    have e0 : eqs sb sb2 = false := eqs_false h_sb
    have e1 : (sb.toList == sb2.toList) = false := by rw [eqs_toList]; exact e0
    have e2 : ¬ sb.toList = sb2.toList := beq_eq_false_iff_ne.1 e1
    have HE := hd e0
    clear e0
    go_enter Try.func47, Try.ntmps47
    go_wp2_with fail
    go_ret
    exact VEnd.eq (VEnd.mk B2.out) (by rw [← HC.out]; unfold sameS; simp [HE.out])
  subst h_sb
  go_enter Try.func47, Try.ntmps47
  go_wp2_with fail
  refine (same_any HX.out HY.out).mono ?_
  rintro e w3 ⟨rfl, hk⟩
  have B3 := hd (below_below B2.out hk)
  clear hk
  go_wp2_with fail
  go_ret
  exact VEnd.eq (VEnd.mk B3.out) (by rw [← HC.out]; unfold sameS; simp [eqs_self])

end Go.Proofs.Yteifaipbckhoiab

namespace Go.Proofs.Yteifaipbckhoiab
open Go.RowKit
set_option linter.unusedVariables false

set_option maxRecDepth 100000 in
set_option maxHeartbeats 4000000 in
theorem eqA_any {w : World} {u v : Value} {xs ys : List AttrD} (hx : El encA 6 w u xs) (hy : El encA 6 w v ys) :
    Calls Try.prog 16 #[u, v] w fun e w' => VEnd w (.bool (sameL sameA xs ys)) e w' := by
  obtain ⟨x0, cx, rfl⟩ := hx.form
  obtain ⟨y0, cy, rfl⟩ := hy.form
  have H47 := hx.len
  have H47' := hy.len
  obtain ⟨c, hc⟩ : ∃ c, sameL sameA xs ys = c := ⟨_, rfl⟩
  rw [hc]
  have HC := hd hc
  clear hc
  have HX := hd hx
  have HY := hd hy
  clear hx hy
  obtain ⟨n, hn⟩ : ∃ n, xs.length = n := ⟨_, rfl⟩
  obtain ⟨m, hm⟩ : ∃ m, ys.length = m := ⟨_, rfl⟩
  rw [hn] at HX H47 ⊢
  rw [hm] at HY H47' ⊢
  have HN := hd hn
  have HM := hd hm
  clear hn hm
  by_cases hnm : n = m
  · subst hnm
    go_enter Try.func16, Try.ntmps16
    go_wp2_with fail
    go_loopw [5, 13] (fun _ i wr => ∃ k : Nat, k ≤ n ∧ i = .int .i64 (k : Int) ∧ Below w.heap.size w wr ∧ ∀ t (h1 : t < xs.length) (h2 : t < ys.length), t < k → sameA xs[t] ys[t] = true) (fun _ i _ => n - (intOf i).toNat)
    case atStart => exact ⟨0, Nat.zero_le _, rfl, Below.refl _ _, fun t _ _ ht => absurd ht (Nat.not_lt_zero t)⟩
    case round =>
      obtain ⟨k, hkn, rfl, hb, ha⟩ := hrel
      have HA := hd ha
      have HB := hd hb
      clear ha hb
      by_cases hlt : k < n
      · have hlz : (k : Int) < (n : Int) := by omega
        have hxk : k < xs.length := by rw [HN.out]; omega
        have hyk : k < ys.length := by rw [HM.out]; omega
        obtain ⟨⟨s, x, p, kk, mm, b⟩, he1⟩ : ∃ r : AttrD, xs[k]'(by omega) = r := ⟨_, rfl⟩
        obtain ⟨⟨s2, x2, p2, k2, m2, b2⟩, he2⟩ : ∃ r : AttrD, ys[k]'(by omega) = r := ⟨_, rfl⟩
        obtain ⟨g, off, hx, hcx, _, c0, c1, c2, c3, c4, c5⟩ := HX.out.atA HB.out HN.out hlt he1
        obtain ⟨g', off', hx', hcy, _, d0, d1, d2, d3, d4, d5⟩ := HY.out.atA HB.out HM.out hlt he2
        subst hx hx'
        have HE1 := hd he1
        have HE2 := hd he2
        clear he1 he2
        obtain ⟨q, hq⟩ : ∃ q, sameA (s, x, p, kk, mm, b) (s2, x2, p2, k2, m2, b2) = q := ⟨_, rfl⟩
        have e24 : ∀ w, (Op.equalIn 10000 44 (.agg #[.string s, .int .i64 x, .int .u32 p, .int .i64 kk, .int .i64 mm, .string b]) (.agg #[.string s2, .int .i64 x2, .int .u32 p2, .int .i64 k2, .int .i64 m2, .string b2])).run Try.prog w = .ok q w := fun w => by rw [eq35, hq]
        have HQ := hd hq
        clear hq
        go_wp2_with fail
        go_quiet (fail)
        have HS := hd (below_drewN HB.out nq)
        clear c0 c1 c2 c3 c4 c5 d0 d1 d2 d3 d4 d5 e24
        generalize wr.drewN nq = w2 at *
        cases q
        · go_wp2_with fail
          go_ret
          refine VEnd.eq (VEnd.mk HS.out) ?_
          have e0 : sameL sameA xs ys = false := sameL_at hxk hyk (by rw [HE1.out, HE2.out]; exact HQ.out)
          rw [← HC.out, e0]
          rfl
        · go_wp2_with fail
          go_roundw
          case rel =>
            refine ⟨k + 1, by omega, by go_num, HS.out, fun t h1 h2 ht => ?_⟩
            by_cases e : t = k
            · subst e
              rw [HE1.out, HE2.out]
              exact HQ.out
            · exact HA.out t h1 h2 (by omega)
          case measure => simp [intOf]; omega
      · have hnl : ¬ (k : Int) < (n : Int) := by omega
        go_wp2_with fail
        go_ret
        refine VEnd.eq (VEnd.mk HB.out) ?_
        have e0 : sameL sameA xs ys = true := sameL_all (by rw [HN.out, HM.out]) fun t h1 h2 => HA.out t h1 h2 (by have := HN.out; omega)
        rw [← HC.out, e0]
        rfl
  · have hne : ((n : Int) != (m : Int)) = true := by rw [bne_iff_ne]; omega
    have HNM := hd hnm
    go_enter Try.func16, Try.ntmps16
    go_wp2_with fail
    go_ret
    refine VEnd.eq (VEnd.mk (Below.refl _ _)) ?_
    have e0 : sameL sameA xs ys = false := sameL_len (by rw [HN.out, HM.out]; exact HNM.out)
    rw [← HC.out, e0]
    rfl


set_option maxRecDepth 100000 in
set_option maxHeartbeats 8000000 in
theorem sameS_cells (tr sid pa st ln tr2 sid2 pa2 st2 ln2 : Int) (sv op sb sv2 op2 sb2 : ByteArray) (ats ats2 : List AttrD) (v u : Value) (w : World) (hx : El encA 6 w v ats) (hy : El encA 6 w u ats2) :
    Calls Try.prog 15 #[.agg #[Value.int IntKind.i64 tr, Value.int IntKind.i64 sid, Value.int IntKind.i64 pa, Value.string sv, Value.string op, Value.int IntKind.i64 st, Value.int IntKind.i64 ln, Value.string sb, v], .agg #[Value.int IntKind.i64 tr2, Value.int IntKind.i64 sid2, Value.int IntKind.i64 pa2, Value.string sv2, Value.string op2, Value.int IntKind.i64 st2, Value.int IntKind.i64 ln2, Value.string sb2, u]] w fun e w' => VEnd w (.bool (sameS ⟨tr, sid, pa, st, ln, sv, op, sb, ats⟩ ⟨tr2, sid2, pa2, st2, ln2, sv2, op2, sb2, ats2⟩)) e w' := by
  obtain ⟨vx, vc, rfl⟩ := hx.form
  obtain ⟨ux, uc, rfl⟩ := hy.form
  obtain ⟨c, hc⟩ : ∃ c, sameS ⟨tr, sid, pa, st, ln, sv, op, sb, ats⟩ ⟨tr2, sid2, pa2, st2, ln2, sv2, op2, sb2, ats2⟩ = c := ⟨_, rfl⟩
  rw [hc]
  obtain ⟨m, hm⟩ : ∃ m, ats.length = m := ⟨_, rfl⟩
  obtain ⟨q, hq⟩ : ∃ q, ats2.length = q := ⟨_, rfl⟩
  rw [hm] at hx ⊢
  rw [hq] at hy ⊢
  have HC := hd hc
  clear hc hm hq
  have k2 := below1 (w.alloc (Obj.cells #[Value.int IntKind.i64 tr, Value.int IntKind.i64 sid, Value.int IntKind.i64 pa, Value.string sv, Value.string op, Value.int IntKind.i64 st, Value.int IntKind.i64 ln, Value.string sb, Value.slice vx m vc] 36)) (Obj.cells #[Value.int IntKind.i64 tr2, Value.int IntKind.i64 sid2, Value.int IntKind.i64 pa2, Value.string sv2, Value.string op2, Value.int IntKind.i64 st2, Value.int IntKind.i64 ln2, Value.string sb2, Value.slice ux q uc] 36)
  have A1 := (Bk.new w 36 #[Value.int IntKind.i64 tr, Value.int IntKind.i64 sid, Value.int IntKind.i64 pa, Value.string sv, Value.string op, Value.int IntKind.i64 st, Value.int IntKind.i64 ln, Value.string sb, Value.slice vx m vc]).keep k2
  have BB := below2 w (Obj.cells #[Value.int IntKind.i64 tr, Value.int IntKind.i64 sid, Value.int IntKind.i64 pa, Value.string sv, Value.string op, Value.int IntKind.i64 st, Value.int IntKind.i64 ln, Value.string sb, Value.slice vx m vc] 36) (Obj.cells #[Value.int IntKind.i64 tr2, Value.int IntKind.i64 sid2, Value.int IntKind.i64 pa2, Value.string sv2, Value.string op2, Value.int IntKind.i64 st2, Value.int IntKind.i64 ln2, Value.string sb2, Value.slice ux q uc] 36)
  have HX := hd (hx.keep BB)
  have HY := hd (hy.keep BB)
  have B2 := hd BB
  clear hx hy k2 BB
  have c0 := A1.cell 0
  have c1 := A1.cell 1
  have c2 := A1.cell 2
  have c3 := A1.cell 3
  have c4 := A1.cell 4
  have c5 := A1.cell 5
  have c6 := A1.cell 6
  have c7 := A1.cell 7
  have c8 := A1.cell 8
  simp at c0 c1 c2 c3 c4 c5 c6 c7 c8
  clear A1
  by_cases h_tr : tr = tr2
  case neg =>
    have e1 : (tr == tr2) = false := beq_eq_false_iff_ne.2 h_tr
    have HE := hd e1
    go_enter Try.func15, Try.ntmps15
    go_wp2_with fail
    go_ret
    exact VEnd.eq (VEnd.mk B2.out) (by rw [← HC.out]; unfold sameS; simp [HE.out])
  subst h_tr
  by_cases h_sid : sid = sid2
  case neg =>
    have e1 : (sid == sid2) = false := beq_eq_false_iff_ne.2 h_sid
    have HE := hd e1
    go_enter Try.func15, Try.ntmps15
    go_wp2_with fail
    go_ret
    exact VEnd.eq (VEnd.mk B2.out) (by rw [← HC.out]; unfold sameS; simp [HE.out])
  subst h_sid
  by_cases h_pa : pa = pa2
  case neg =>
    have e1 : (pa == pa2) = false := beq_eq_false_iff_ne.2 h_pa
    have HE := hd e1
    go_enter Try.func15, Try.ntmps15
    go_wp2_with fail
    go_ret
    exact VEnd.eq (VEnd.mk B2.out) (by rw [← HC.out]; unfold sameS; simp [HE.out])
  subst h_pa
  by_cases h_sv : sv = sv2
  case neg =>
    have e0 : eqs sv sv2 = false := eqs_false h_sv
    have e1 : (sv.toList == sv2.toList) = false := by rw [eqs_toList]; exact e0
    have e2 : ¬ sv.toList = sv2.toList := beq_eq_false_iff_ne.1 e1
    have HE := hd e0
    clear e0
    go_enter Try.func15, Try.ntmps15
    go_wp2_with fail
    go_ret
    exact VEnd.eq (VEnd.mk B2.out) (by rw [← HC.out]; unfold sameS; simp [HE.out])
  subst h_sv
  by_cases h_op : op = op2
  case neg =>
    have e0 : eqs op op2 = false := eqs_false h_op
    have e1 : (op.toList == op2.toList) = false := by rw [eqs_toList]; exact e0
    have e2 : ¬ op.toList = op2.toList := beq_eq_false_iff_ne.1 e1
    have HE := hd e0
    clear e0
    go_enter Try.func15, Try.ntmps15
    go_wp2_with fail
    go_ret
    exact VEnd.eq (VEnd.mk B2.out) (by rw [← HC.out]; unfold sameS; simp [HE.out])
  subst h_op
  by_cases h_st : st = st2
  case neg =>
    have e1 : (st == st2) = false := beq_eq_false_iff_ne.2 h_st
    have HE := hd e1
    go_enter Try.func15, Try.ntmps15
    go_wp2_with fail
    go_ret
    exact VEnd.eq (VEnd.mk B2.out) (by rw [← HC.out]; unfold sameS; simp [HE.out])
  subst h_st
  by_cases h_ln : ln = ln2
  case neg =>
    have e1 : (ln == ln2) = false := beq_eq_false_iff_ne.2 h_ln
    have HE := hd e1
    go_enter Try.func15, Try.ntmps15
    go_wp2_with fail
    go_ret
    exact VEnd.eq (VEnd.mk B2.out) (by rw [← HC.out]; unfold sameS; simp [HE.out])
  subst h_ln
  by_cases h_sb : sb = sb2
  case neg =>
    have e0 : eqs sb sb2 = false := eqs_false h_sb
    have e1 : (sb.toList == sb2.toList) = false := by rw [eqs_toList]; exact e0
    have e2 : ¬ sb.toList = sb2.toList := beq_eq_false_iff_ne.1 e1
    have HE := hd e0
    clear e0
    go_enter Try.func15, Try.ntmps15
    go_wp2_with fail
    go_ret
    exact VEnd.eq (VEnd.mk B2.out) (by rw [← HC.out]; unfold sameS; simp [HE.out])
  subst h_sb
  go_enter Try.func15, Try.ntmps15
  go_wp2_with fail
  refine (eqA_any HX.out HY.out).mono ?_
  rintro e w3 ⟨rfl, hk⟩
  have B3 := hd (below_below B2.out hk)
  clear hk
  go_wp2_with fail
  go_ret
  exact VEnd.eq (VEnd.mk B3.out) (by rw [← HC.out]; unfold sameS; simp [eqs_self])


end Go.Proofs.Yteifaipbckhoiab

namespace Go.Proofs.Yteifaipbckhoiab
open Go.RowKit
set_option linter.unusedVariables false

def sameSv (a b : SpanV) : Bool := sameS a.1 b.1
theorem sameL_spd : ∀ xs ys : List SpanV, sameL sameSv xs ys = sameL sameS (spd xs) (spd ys)
  | [], [] => rfl
  | [], _ :: _ => rfl
  | _ :: _, [] => rfl
  | a :: s, b :: t => by
    show (sameS a.1 b.1 && sameL sameSv s t) = (sameS a.1 b.1 && sameL sameS (spd s) (spd t))
    rw [sameL_spd s t]

set_option maxRecDepth 100000 in
set_option maxHeartbeats 8000000 in
theorem eqF_any {w : World} {u v : Value} {xs ys : List SpanV} (hx : Sps w u xs) (hy : Sps w v ys) :
    Calls Try.prog 14 #[u, v, .func (.func 15) #[] #[]] w fun e w' => VEnd w (.bool (sameL sameSv xs ys)) e w' := by
  obtain ⟨x0, cx, rfl⟩ := hx.el.form
  obtain ⟨y0, cy, rfl⟩ := hy.el.form
  have H47 := hx.el.len
  have H47' := hy.el.len
  obtain ⟨c, hc⟩ : ∃ c, sameL sameSv xs ys = c := ⟨_, rfl⟩
  rw [hc]
  have HC := hd hc
  clear hc
  have HX := hd hx
  have HY := hd hy
  clear hx hy
  obtain ⟨n, hn⟩ : ∃ n, xs.length = n := ⟨_, rfl⟩
  obtain ⟨m', hm⟩ : ∃ m, ys.length = m := ⟨_, rfl⟩
  rw [hn] at HX H47 ⊢
  rw [hm] at HY H47' ⊢
  have HN := hd hn
  have HM := hd hm
  clear hn hm
  by_cases hnm : n = m'
  case neg =>
    have hne : ((n : Int) != (m' : Int)) = true := by rw [bne_iff_ne]; omega
    have HNM := hd hnm
    go_enter Try.func14, Try.ntmps14
    go_wp2_with fail
    go_ret
    refine VEnd.eq (VEnd.mk (Below.refl _ _)) ?_
    have e0 : sameL sameSv xs ys = false := sameL_len (by rw [HN.out, HM.out]; exact HNM.out)
    rw [← HC.out, e0]
    rfl
  subst hnm
  go_enter Try.func14, Try.ntmps14
  go_wp2_with fail
  go_loopw [7, 8, 9, 17] (fun _ _ _ i wr => ∃ k : Nat, k ≤ n ∧ i = .int .i64 (k : Int) ∧ Below w.heap.size w wr ∧ ∀ t (h1 : t < xs.length) (h2 : t < ys.length), t < k → sameSv xs[t] ys[t] = true) (fun _ _ _ i _ => n - (intOf i).toNat)
  case atStart => exact ⟨0, Nat.zero_le _, rfl, Below.refl _ _, fun t _ _ ht => absurd ht (Nat.not_lt_zero t)⟩
  case round =>
    obtain ⟨k, hkn, rfl, hb, ha⟩ := hrel
    have HA := hd ha
    have HB := hd hb
    clear ha hb
    by_cases hlt : k < n
    case neg =>
      have hnl : ¬ (k : Int) < (n : Int) := by omega
      go_wp2_with fail
      go_ret
      refine VEnd.eq (VEnd.mk HB.out) ?_
      have e0 : sameL sameSv xs ys = true := sameL_all (by rw [HN.out, HM.out]) fun t h1 h2 => HA.out t h1 h2 (by have := HN.out; omega)
      rw [← HC.out, e0]
      rfl
    have hlz : (k : Int) < (n : Int) := by omega
    have hxk : k < xs.length := by rw [HN.out]; omega
    have hyk : k < ys.length := by rw [HM.out]; omega
    obtain ⟨⟨⟨tr, sid, pa, st, ln, sv, op, sb, ats⟩, v1⟩, he1⟩ : ∃ r : SpanV, xs[k]'(by omega) = r := ⟨_, rfl⟩
    obtain ⟨⟨⟨tr2, sid2, pa2, st2, ln2, sv2, op2, sb2, ats2⟩, v2⟩, he2⟩ : ∃ r : SpanV, ys[k]'(by omega) = r := ⟨_, rfl⟩
    obtain ⟨g, off, hx, hcx, _, c0, c1, c2, c3, c4, c5, c6, c7, c8, hel⟩ := HX.out.atS HB.out HN.out hlt he1
    obtain ⟨g', off', hx', hcy, _, d0, d1, d2, d3, d4, d5, d6, d7, d8, hel2⟩ := HY.out.atS HB.out HM.out hlt he2
    subst hx hx'
    obtain ⟨vx, vc, hv⟩ := hel.form
    obtain ⟨ux, uc, hv2⟩ := hel2.form
    obtain ⟨m, hm⟩ : ∃ m, ats.length = m := ⟨_, rfl⟩
    obtain ⟨q, hq⟩ : ∃ m, ats2.length = m := ⟨_, rfl⟩
    rw [hm] at hv
    rw [hq] at hv2
    subst hv hv2
    have HE := hd (hel.keep HB.out)
    have HE2 := hd (hel2.keep HB.out)
    obtain ⟨z, hz⟩ : ∃ z, sameS ⟨tr, sid, pa, st, ln, sv, op, sb, ats⟩ ⟨tr2, sid2, pa2, st2, ln2, sv2, op2, sb2, ats2⟩ = z := ⟨_, rfl⟩
    have HZ : Hid (sameSv xs[k] ys[k] = z) := hd (by rw [he1, he2]; exact hz)
    have HZZ := hd hz
    clear hel hel2 hm hq he1 he2 hz
    have k1 := below1 wr (Obj.cells #[Value.int IntKind.i64 tr, Value.int IntKind.i64 sid, Value.int IntKind.i64 pa, Value.string sv, Value.string op, Value.int IntKind.i64 st, Value.int IntKind.i64 ln, Value.string sb, Value.slice vx m vc] 36)
    have f0 := (below_cell k1 (World.block_lt_of_cell? wr _ d0)).trans d0
    have f1 := (below_cell k1 (World.block_lt_of_cell? wr _ d1)).trans d1
    have f2 := (below_cell k1 (World.block_lt_of_cell? wr _ d2)).trans d2
    have f3 := (below_cell k1 (World.block_lt_of_cell? wr _ d3)).trans d3
    have f4 := (below_cell k1 (World.block_lt_of_cell? wr _ d4)).trans d4
    have f5 := (below_cell k1 (World.block_lt_of_cell? wr _ d5)).trans d5
    have f6 := (below_cell k1 (World.block_lt_of_cell? wr _ d6)).trans d6
    have f7 := (below_cell k1 (World.block_lt_of_cell? wr _ d7)).trans d7
    have f8 := (below_cell k1 (World.block_lt_of_cell? wr _ d8)).trans d8
    have k2 := below1 (wr.alloc (Obj.cells #[Value.int IntKind.i64 tr, Value.int IntKind.i64 sid, Value.int IntKind.i64 pa, Value.string sv, Value.string op, Value.int IntKind.i64 st, Value.int IntKind.i64 ln, Value.string sb, Value.slice vx m vc] 36)) (Obj.cells #[Value.int IntKind.i64 tr2, Value.int IntKind.i64 sid2, Value.int IntKind.i64 pa2, Value.string sv2, Value.string op2, Value.int IntKind.i64 st2, Value.int IntKind.i64 ln2, Value.string sb2, Value.slice ux q uc] 36)
    have A1 := (Bk.new wr 36 #[Value.int IntKind.i64 tr, Value.int IntKind.i64 sid, Value.int IntKind.i64 pa, Value.string sv, Value.string op, Value.int IntKind.i64 st, Value.int IntKind.i64 ln, Value.string sb, Value.slice vx m vc]).keep k2
    have hz1 : (wr.alloc (Obj.cells #[Value.int IntKind.i64 tr, Value.int IntKind.i64 sid, Value.int IntKind.i64 pa, Value.string sv, Value.string op, Value.int IntKind.i64 st, Value.int IntKind.i64 ln, Value.string sb, Value.slice vx m vc] 36)).heap.size = wr.heap.size + 1 := by simp
    have A2 := Bk.new (wr.alloc (Obj.cells #[Value.int IntKind.i64 tr, Value.int IntKind.i64 sid, Value.int IntKind.i64 pa, Value.string sv, Value.string op, Value.int IntKind.i64 st, Value.int IntKind.i64 ln, Value.string sb, Value.slice vx m vc] 36)) 36 #[Value.int IntKind.i64 tr2, Value.int IntKind.i64 sid2, Value.int IntKind.i64 pa2, Value.string sv2, Value.string op2, Value.int IntKind.i64 st2, Value.int IntKind.i64 ln2, Value.string sb2, Value.slice ux q uc]
    rw [hz1] at A2
    have g0 := A1.cell 0
    have h0 := A2.cell 0
    have g1 := A1.cell 1
    have h1 := A2.cell 1
    have g2 := A1.cell 2
    have h2 := A2.cell 2
    have g3 := A1.cell 3
    have h3 := A2.cell 3
    have g4 := A1.cell 4
    have h4 := A2.cell 4
    have g5 := A1.cell 5
    have h5 := A2.cell 5
    have g6 := A1.cell 6
    have h6 := A2.cell 6
    have g7 := A1.cell 7
    have h7 := A2.cell 7
    have g8 := A1.cell 8
    have h8 := A2.cell 8
    simp at g0 h0 g1 h1 g2 h2 g3 h3 g4 h4 g5 h5 g6 h6 g7 h7 g8 h8
    clear A1 A2 k1 k2 hz1
    have BB := below2 wr (Obj.cells #[Value.int IntKind.i64 tr, Value.int IntKind.i64 sid, Value.int IntKind.i64 pa, Value.string sv, Value.string op, Value.int IntKind.i64 st, Value.int IntKind.i64 ln, Value.string sb, Value.slice vx m vc] 36) (Obj.cells #[Value.int IntKind.i64 tr2, Value.int IntKind.i64 sid2, Value.int IntKind.i64 pa2, Value.string sv2, Value.string op2, Value.int IntKind.i64 st2, Value.int IntKind.i64 ln2, Value.string sb2, Value.slice ux q uc] 36)
    have B1 := hd (below_below HB.out BB)
    have E1 := hd (HE.out.keep BB)
    have E2 := hd (HE2.out.keep BB)
    clear BB HB HE HE2
    go_wp2_with fail
    clear c0 c1 c2 c3 c4 c5 c6 c7 c8 d0 d1 d2 d3 d4 d5 d6 d7 d8 f0 f1 f2 f3 f4 f5 f6 f7 f8 g0 g1 g2 g3 g4 g5 g6 g7 g8 h0 h1 h2 h3 h4 h5 h6 h7 h8
    refine (sameS_cells tr sid pa st ln tr2 sid2 pa2 st2 ln2 sv op sb sv2 op2 sb2 ats ats2 _ _ _ E1.out E2.out).mono ?_
    rintro e w3 ⟨rfl, hk⟩
    have B3 := hd (below_below B1.out hk)
    clear hk B1 E1 E2
    rw [HZZ.out]
    cases z
    · go_wp2_with fail
      go_ret
      refine VEnd.eq (VEnd.mk B3.out) ?_
      have e0 : sameL sameSv xs ys = false := sameL_at hxk hyk HZ.out
      rw [← HC.out, e0]
      rfl
    · go_wp2_with fail
      go_roundw
      case rel =>
        refine ⟨k + 1, by omega, by go_num, B3.out, fun t h1 h2 ht => ?_⟩
        by_cases e : t = k
        · subst e
          exact HZ.out
        · exact HA.out t h1 h2 (by omega)
      case measure => simp [intOf]; omega

set_option maxRecDepth 100000 in
set_option maxHeartbeats 8000000 in
theorem rsameL_any {w : World} {u v : Value} {xs ys : List SpanV} (hx : Sps w u xs) (hy : Sps w v ys) :
    Calls Try.prog 31 #[u, v] w fun e w' => VEnd w (.bool (sameL sameSv xs ys)) e w' := by
  obtain ⟨x0, cx, rfl⟩ := hx.el.form
  obtain ⟨y0, cy, rfl⟩ := hy.el.form
  have H47 := hx.el.len
  have H47' := hy.el.len
  obtain ⟨c, hc⟩ : ∃ c, sameL sameSv xs ys = c := ⟨_, rfl⟩
  rw [hc]
  have HC := hd hc
  clear hc
  have HX := hd hx
  have HY := hd hy
  clear hx hy
  obtain ⟨n, hn⟩ : ∃ n, xs.length = n := ⟨_, rfl⟩
  obtain ⟨m', hm⟩ : ∃ m, ys.length = m := ⟨_, rfl⟩
  rw [hn] at HX H47 ⊢
  rw [hm] at HY H47' ⊢
  have HN := hd hn
  have HM := hd hm
  clear hn hm
  by_cases hnm : n = m'
  case neg =>
    have hne : ((n : Int) != (m' : Int)) = true := by rw [bne_iff_ne]; omega
    have HNM := hd hnm
    go_enter Try.func31, Try.ntmps31
    go_wp2_with fail
    go_ret
    refine VEnd.eq (VEnd.mk (Below.refl _ _)) ?_
    have e0 : sameL sameSv xs ys = false := sameL_len (by rw [HN.out, HM.out]; exact HNM.out)
    rw [← HC.out, e0]
    rfl
  subst hnm
  go_enter Try.func31, Try.ntmps31
  go_wp2_with fail
  go_loopw [5] (fun i wr => ∃ k : Nat, k ≤ n ∧ i = .int .i64 (k : Int) ∧ Below w.heap.size w wr ∧ ∀ t (h1 : t < xs.length) (h2 : t < ys.length), t < k → sameSv xs[t] ys[t] = true) (fun i _ => n - (intOf i).toNat)
  case atStart => exact ⟨0, Nat.zero_le _, rfl, Below.refl _ _, fun t _ _ ht => absurd ht (Nat.not_lt_zero t)⟩
  case round =>
    obtain ⟨k, hkn, rfl, hb, ha⟩ := hrel
    have HA := hd ha
    have HB := hd hb
    clear ha hb
    by_cases hlt : k < n
    case neg =>
      have hnl : ¬ (k : Int) < (n : Int) := by omega
      go_wp2_with fail
      go_ret
      refine VEnd.eq (VEnd.mk HB.out) ?_
      have e0 : sameL sameSv xs ys = true := sameL_all (by rw [HN.out, HM.out]) fun t h1 h2 => HA.out t h1 h2 (by have := HN.out; omega)
      rw [← HC.out, e0]
      rfl
    have hlz : (k : Int) < (n : Int) := by omega
    have hxk : k < xs.length := by rw [HN.out]; omega
    have hyk : k < ys.length := by rw [HM.out]; omega
    obtain ⟨⟨⟨tr, sid, pa, st, ln, sv, op, sb, ats⟩, v1⟩, he1⟩ : ∃ r : SpanV, xs[k]'(by omega) = r := ⟨_, rfl⟩
    obtain ⟨⟨⟨tr2, sid2, pa2, st2, ln2, sv2, op2, sb2, ats2⟩, v2⟩, he2⟩ : ∃ r : SpanV, ys[k]'(by omega) = r := ⟨_, rfl⟩
    obtain ⟨g, off, hx, hcx, _, c0, c1, c2, c3, c4, c5, c6, c7, c8, hel⟩ := HX.out.atS HB.out HN.out hlt he1
    obtain ⟨g', off', hx', hcy, _, d0, d1, d2, d3, d4, d5, d6, d7, d8, hel2⟩ := HY.out.atS HB.out HM.out hlt he2
    subst hx hx'
    obtain ⟨vx, vc, hv⟩ := hel.form
    obtain ⟨ux, uc, hv2⟩ := hel2.form
    obtain ⟨m, hm⟩ : ∃ m, ats.length = m := ⟨_, rfl⟩
    obtain ⟨q, hq⟩ : ∃ m, ats2.length = m := ⟨_, rfl⟩
    rw [hm] at hv
    rw [hq] at hv2
    subst hv hv2
    have HE := hd (hel.keep HB.out)
    have HE2 := hd (hel2.keep HB.out)
    obtain ⟨z, hz⟩ : ∃ z, sameS ⟨tr, sid, pa, st, ln, sv, op, sb, ats⟩ ⟨tr2, sid2, pa2, st2, ln2, sv2, op2, sb2, ats2⟩ = z := ⟨_, rfl⟩
    have HZ : Hid (sameSv xs[k] ys[k] = z) := hd (by rw [he1, he2]; exact hz)
    have HZZ := hd hz
    clear hel hel2 hm hq he1 he2 hz
    have HQ : Hid (∀ W, Below wr.heap.size wr W → Calls Try.prog 47 #[.agg #[Value.int IntKind.i64 tr, Value.int IntKind.i64 sid, Value.int IntKind.i64 pa, Value.string sv, Value.string op, Value.int IntKind.i64 st, Value.int IntKind.i64 ln, Value.string sb, Value.slice vx m vc], .agg #[Value.int IntKind.i64 tr2, Value.int IntKind.i64 sid2, Value.int IntKind.i64 pa2, Value.string sv2, Value.string op2, Value.int IntKind.i64 st2, Value.int IntKind.i64 ln2, Value.string sb2, Value.slice ux q uc]] W fun e w' => VEnd W (.bool z) e w') := hd (fun W hW => by
      have h := rsameS_cells tr sid pa st ln tr2 sid2 pa2 st2 ln2 sv op sb sv2 op2 sb2 ats ats2 _ _ W (HE.out.keep hW) (HE2.out.keep hW)
      rw [HZZ.out] at h
      exact h)
    have D0 := hd c0
    have F0 := hd d0
    have D1 := hd c1
    have F1 := hd d1
    have D2 := hd c2
    have F2 := hd d2
    have D3 := hd c3
    have F3 := hd d3
    have D4 := hd c4
    have F4 := hd d4
    have D5 := hd c5
    have F5 := hd d5
    have D6 := hd c6
    have F6 := hd d6
    have D7 := hd c7
    have F7 := hd d7
    have D8 := hd c8
    have F8 := hd d8
    clear c0 c1 c2 c3 c4 c5 c6 c7 c8 d0 d1 d2 d3 d4 d5 d6 d7 d8 HZZ
    go_wp2_with fail
    cases z
    · skip
      refine wp_region_each 10 (fun W W' => Below W.heap.size W W') (fun i v W => match i with | 0 => v = Value.slice (some ⟨g, off, none⟩) n cx | 1 => v = Value.int IntKind.i64 (k : Int) | 2 => v = Value.pointer (some ⟨g, off + k * 9, none⟩) | 3 => v = Value.agg #[Value.int IntKind.i64 tr, Value.int IntKind.i64 sid, Value.int IntKind.i64 pa, Value.string sv, Value.string op, Value.int IntKind.i64 st, Value.int IntKind.i64 ln, Value.string sb, Value.slice vx m vc] | 4 => v = Value.slice (some ⟨g', off', none⟩) n cy | 5 => v = Value.int IntKind.i64 (k : Int) | 6 => v = Value.pointer (some ⟨g', off' + k * 9, none⟩) | 7 => v = Value.agg #[Value.int IntKind.i64 tr2, Value.int IntKind.i64 sid2, Value.int IntKind.i64 pa2, Value.string sv2, Value.string op2, Value.int IntKind.i64 st2, Value.int IntKind.i64 ln2, Value.string sb2, Value.slice ux q uc] | 8 => v = Value.bool false | 9 => v = Value.bool true | _ => True) (fun vs W => Below wr.heap.size wr W) (by kernel_rfl) (by kernel_rfl) (fun j v W W' hE h => by
          match j with
          | 0 => exact h
          | 1 => exact h
          | 2 => exact h
          | 3 => exact h
          | 4 => exact h
          | 5 => exact h
          | 6 => exact h
          | 7 => exact h
          | 8 => exact h
          | 9 => exact h
          | _ + 10 => trivial) (by exact (Below.refl _ _).drew) ?_ ?_
      · simp only [List.take_succ_cons, List.take_zero]
        refine Each.cons (fun vs W hl => ?_) ?_
        · apply with10 hl
          clear hl vs
          intro v0 v1 v2 v3 v4 v5 v6 v7 v8 v9 hg hnew hd K hK
          clear hd
          clear hnew
          rw [if_pos (by kernel_rfl)]
          simp only [puts, Act.put, List.setIfInBounds_toArray, List.set_cons_zero, List.set_cons_succ] at hK ⊢
          go_simp
          exact hK _ _ (Below.refl _ _) rfl hg
        refine Each.cons (fun vs W hl => ?_) ?_
        · apply with10 hl
          clear hl vs
          intro v0 v1 v2 v3 v4 v5 v6 v7 v8 v9 hg hnew hd K hK
          clear hd
          clear hnew
          rw [if_pos (by kernel_rfl)]
          simp only [puts, Act.put, List.setIfInBounds_toArray, List.set_cons_zero, List.set_cons_succ] at hK ⊢
          go_simp
          exact hK _ _ (Below.refl _ _) rfl hg
        refine Each.cons (fun vs W hl => ?_) ?_
        · apply with10 hl
          clear hl vs
          intro v0 v1 v2 v3 v4 v5 v6 v7 v8 v9 hg hnew hd K hK
          have d0 : v0 = Value.slice (some ⟨g, off, none⟩) n cx := hd 0 v0 (by kernel_rfl) rfl
          subst d0
          have d1 : v1 = Value.int IntKind.i64 (k : Int) := hd 1 v1 (by kernel_rfl) rfl
          subst d1
          clear hd
          clear hnew
          rw [if_pos (by kernel_rfl)]
          simp only [puts, Act.put, List.setIfInBounds_toArray, List.set_cons_zero, List.set_cons_succ] at hK ⊢
          go_simp
          exact hK _ _ (Below.refl _ _) rfl hg
        refine Each.cons (fun vs W hl => ?_) ?_
        · apply with10 hl
          clear hl vs
          intro v0 v1 v2 v3 v4 v5 v6 v7 v8 v9 hg hnew hd K hK
          have d2 : v2 = Value.pointer (some ⟨g, off + k * 9, none⟩) := hd 2 v2 (by kernel_rfl) rfl
          subst d2
          clear hd
          clear hnew
          rw [if_pos (by kernel_rfl)]
          simp only [puts, Act.put, List.setIfInBounds_toArray, List.set_cons_zero, List.set_cons_succ] at hK ⊢
          have e0 := (below_cell hg (World.block_lt_of_cell? wr _ D0.out)).trans D0.out
          have e1 := (below_cell hg (World.block_lt_of_cell? wr _ D1.out)).trans D1.out
          have e2 := (below_cell hg (World.block_lt_of_cell? wr _ D2.out)).trans D2.out
          have e3 := (below_cell hg (World.block_lt_of_cell? wr _ D3.out)).trans D3.out
          have e4 := (below_cell hg (World.block_lt_of_cell? wr _ D4.out)).trans D4.out
          have e5 := (below_cell hg (World.block_lt_of_cell? wr _ D5.out)).trans D5.out
          have e6 := (below_cell hg (World.block_lt_of_cell? wr _ D6.out)).trans D6.out
          have e7 := (below_cell hg (World.block_lt_of_cell? wr _ D7.out)).trans D7.out
          have e8 := (below_cell hg (World.block_lt_of_cell? wr _ D8.out)).trans D8.out
          go_simp
          exact hK _ _ (Below.refl _ _) rfl hg
        refine Each.cons (fun vs W hl => ?_) ?_
        · apply with10 hl
          clear hl vs
          intro v0 v1 v2 v3 v4 v5 v6 v7 v8 v9 hg hnew hd K hK
          clear hd
          clear hnew
          rw [if_pos (by kernel_rfl)]
          simp only [puts, Act.put, List.setIfInBounds_toArray, List.set_cons_zero, List.set_cons_succ] at hK ⊢
          go_simp
          exact hK _ _ (Below.refl _ _) rfl hg
        refine Each.cons (fun vs W hl => ?_) ?_
        · apply with10 hl
          clear hl vs
          intro v0 v1 v2 v3 v4 v5 v6 v7 v8 v9 hg hnew hd K hK
          clear hd
          clear hnew
          rw [if_pos (by kernel_rfl)]
          simp only [puts, Act.put, List.setIfInBounds_toArray, List.set_cons_zero, List.set_cons_succ] at hK ⊢
          go_simp
          exact hK _ _ (Below.refl _ _) rfl hg
        refine Each.cons (fun vs W hl => ?_) ?_
        · apply with10 hl
          clear hl vs
          intro v0 v1 v2 v3 v4 v5 v6 v7 v8 v9 hg hnew hd K hK
          have d4 : v4 = Value.slice (some ⟨g', off', none⟩) n cy := hd 4 v4 (by kernel_rfl) rfl
          subst d4
          have d5 : v5 = Value.int IntKind.i64 (k : Int) := hd 5 v5 (by kernel_rfl) rfl
          subst d5
          clear hd
          clear hnew
          rw [if_pos (by kernel_rfl)]
          simp only [puts, Act.put, List.setIfInBounds_toArray, List.set_cons_zero, List.set_cons_succ] at hK ⊢
          go_simp
          exact hK _ _ (Below.refl _ _) rfl hg
        refine Each.cons (fun vs W hl => ?_) ?_
        · apply with10 hl
          clear hl vs
          intro v0 v1 v2 v3 v4 v5 v6 v7 v8 v9 hg hnew hd K hK
          have d6 : v6 = Value.pointer (some ⟨g', off' + k * 9, none⟩) := hd 6 v6 (by kernel_rfl) rfl
          subst d6
          clear hd
          clear hnew
          rw [if_pos (by kernel_rfl)]
          simp only [puts, Act.put, List.setIfInBounds_toArray, List.set_cons_zero, List.set_cons_succ] at hK ⊢
          have e0 := (below_cell hg (World.block_lt_of_cell? wr _ F0.out)).trans F0.out
          have e1 := (below_cell hg (World.block_lt_of_cell? wr _ F1.out)).trans F1.out
          have e2 := (below_cell hg (World.block_lt_of_cell? wr _ F2.out)).trans F2.out
          have e3 := (below_cell hg (World.block_lt_of_cell? wr _ F3.out)).trans F3.out
          have e4 := (below_cell hg (World.block_lt_of_cell? wr _ F4.out)).trans F4.out
          have e5 := (below_cell hg (World.block_lt_of_cell? wr _ F5.out)).trans F5.out
          have e6 := (below_cell hg (World.block_lt_of_cell? wr _ F6.out)).trans F6.out
          have e7 := (below_cell hg (World.block_lt_of_cell? wr _ F7.out)).trans F7.out
          have e8 := (below_cell hg (World.block_lt_of_cell? wr _ F8.out)).trans F8.out
          go_simp
          exact hK _ _ (Below.refl _ _) rfl hg
        refine Each.cons (fun vs W hl => ?_) ?_
        · apply with10 hl
          clear hl vs
          intro v0 v1 v2 v3 v4 v5 v6 v7 v8 v9 hg hnew hd K hK
          have d3 : v3 = Value.agg #[Value.int IntKind.i64 tr, Value.int IntKind.i64 sid, Value.int IntKind.i64 pa, Value.string sv, Value.string op, Value.int IntKind.i64 st, Value.int IntKind.i64 ln, Value.string sb, Value.slice vx m vc] := hd 3 v3 (by kernel_rfl) rfl
          subst d3
          have d7 : v7 = Value.agg #[Value.int IntKind.i64 tr2, Value.int IntKind.i64 sid2, Value.int IntKind.i64 pa2, Value.string sv2, Value.string op2, Value.int IntKind.i64 st2, Value.int IntKind.i64 ln2, Value.string sb2, Value.slice ux q uc] := hd 7 v7 (by kernel_rfl) rfl
          subst d7
          clear hd
          clear hnew
          rw [if_pos (by kernel_rfl)]
          simp only [puts, Act.put, List.setIfInBounds_toArray, List.set_cons_zero, List.set_cons_succ] at hK ⊢
          go_simp
          refine (HQ.out _ hg).mono ?_
          rintro e w' ⟨rfl, hk⟩
          exact hK _ _ hk rfl (below_below hg hk)
        refine Each.cons (fun vs W hl => ?_) ?_
        · apply with10 hl
          clear hl vs
          intro v0 v1 v2 v3 v4 v5 v6 v7 v8 v9 hg hnew hd K hK
          have d8 : v8 = Value.bool false := hd 8 v8 (by kernel_rfl) rfl
          subst d8
          clear hd
          clear hnew
          rw [if_pos (by kernel_rfl)]
          simp only [puts, Act.put, List.setIfInBounds_toArray, List.set_cons_zero, List.set_cons_succ] at hK ⊢
          go_simp
          exact hK _ _ (Below.refl _ _) rfl hg
        exact Each.nil
      · intro vs W hl
        apply with10 hl
        clear hl vs
        intro v0 v1 v2 v3 v4 v5 v6 v7 v8 v9 hg hall
        have d0 : v0 = Value.slice (some ⟨g, off, none⟩) n cx := hall 0 v0 rfl
        subst d0
        have d1 : v1 = Value.int IntKind.i64 (k : Int) := hall 1 v1 rfl
        subst d1
        have d2 : v2 = Value.pointer (some ⟨g, off + k * 9, none⟩) := hall 2 v2 rfl
        subst d2
        have d3 : v3 = Value.agg #[Value.int IntKind.i64 tr, Value.int IntKind.i64 sid, Value.int IntKind.i64 pa, Value.string sv, Value.string op, Value.int IntKind.i64 st, Value.int IntKind.i64 ln, Value.string sb, Value.slice vx m vc] := hall 3 v3 rfl
        subst d3
        have d4 : v4 = Value.slice (some ⟨g', off', none⟩) n cy := hall 4 v4 rfl
        subst d4
        have d5 : v5 = Value.int IntKind.i64 (k : Int) := hall 5 v5 rfl
        subst d5
        have d6 : v6 = Value.pointer (some ⟨g', off' + k * 9, none⟩) := hall 6 v6 rfl
        subst d6
        have d7 : v7 = Value.agg #[Value.int IntKind.i64 tr2, Value.int IntKind.i64 sid2, Value.int IntKind.i64 pa2, Value.string sv2, Value.string op2, Value.int IntKind.i64 st2, Value.int IntKind.i64 ln2, Value.string sb2, Value.slice ux q uc] := hall 7 v7 rfl
        subst d7
        have d8 : v8 = Value.bool false := hall 8 v8 rfl
        subst d8
        have d9 : v9 = Value.bool true := hall 9 v9 rfl
        subst d9
        clear hall
        simp only [puts, Act.put, List.setIfInBounds_toArray, List.set_cons_zero, List.set_cons_succ, List.take_succ_cons, List.take_zero, List.drop_succ_cons, List.drop_zero]
        have BR := hd (below_below HB.out hg)
        clear hg
        go_wp2_with fail
        go_ret
        refine VEnd.eq (VEnd.mk BR.out) ?_
        have e0 : sameL sameSv xs ys = false := sameL_at hxk hyk HZ.out
        rw [← HC.out, e0]
        rfl
    · skip
      refine wp_region_each 10 (fun W W' => Below W.heap.size W W') (fun i v W => match i with | 0 => v = Value.slice (some ⟨g, off, none⟩) n cx | 1 => v = Value.int IntKind.i64 (k : Int) | 2 => v = Value.pointer (some ⟨g, off + k * 9, none⟩) | 3 => v = Value.agg #[Value.int IntKind.i64 tr, Value.int IntKind.i64 sid, Value.int IntKind.i64 pa, Value.string sv, Value.string op, Value.int IntKind.i64 st, Value.int IntKind.i64 ln, Value.string sb, Value.slice vx m vc] | 4 => v = Value.slice (some ⟨g', off', none⟩) n cy | 5 => v = Value.int IntKind.i64 (k : Int) | 6 => v = Value.pointer (some ⟨g', off' + k * 9, none⟩) | 7 => v = Value.agg #[Value.int IntKind.i64 tr2, Value.int IntKind.i64 sid2, Value.int IntKind.i64 pa2, Value.string sv2, Value.string op2, Value.int IntKind.i64 st2, Value.int IntKind.i64 ln2, Value.string sb2, Value.slice ux q uc] | 8 => v = Value.bool true | 9 => v = Value.bool false | _ => True) (fun vs W => Below wr.heap.size wr W) (by kernel_rfl) (by kernel_rfl) (fun j v W W' hE h => by
          match j with
          | 0 => exact h
          | 1 => exact h
          | 2 => exact h
          | 3 => exact h
          | 4 => exact h
          | 5 => exact h
          | 6 => exact h
          | 7 => exact h
          | 8 => exact h
          | 9 => exact h
          | _ + 10 => trivial) (by exact (Below.refl _ _).drew) ?_ ?_
      · simp only [List.take_succ_cons, List.take_zero]
        refine Each.cons (fun vs W hl => ?_) ?_
        · apply with10 hl
          clear hl vs
          intro v0 v1 v2 v3 v4 v5 v6 v7 v8 v9 hg hnew hd K hK
          clear hd
          clear hnew
          rw [if_pos (by kernel_rfl)]
          simp only [puts, Act.put, List.setIfInBounds_toArray, List.set_cons_zero, List.set_cons_succ] at hK ⊢
          go_simp
          exact hK _ _ (Below.refl _ _) rfl hg
        refine Each.cons (fun vs W hl => ?_) ?_
        · apply with10 hl
          clear hl vs
          intro v0 v1 v2 v3 v4 v5 v6 v7 v8 v9 hg hnew hd K hK
          clear hd
          clear hnew
          rw [if_pos (by kernel_rfl)]
          simp only [puts, Act.put, List.setIfInBounds_toArray, List.set_cons_zero, List.set_cons_succ] at hK ⊢
          go_simp
          exact hK _ _ (Below.refl _ _) rfl hg
        refine Each.cons (fun vs W hl => ?_) ?_
        · apply with10 hl
          clear hl vs
          intro v0 v1 v2 v3 v4 v5 v6 v7 v8 v9 hg hnew hd K hK
          have d0 : v0 = Value.slice (some ⟨g, off, none⟩) n cx := hd 0 v0 (by kernel_rfl) rfl
          subst d0
          have d1 : v1 = Value.int IntKind.i64 (k : Int) := hd 1 v1 (by kernel_rfl) rfl
          subst d1
          clear hd
          clear hnew
          rw [if_pos (by kernel_rfl)]
          simp only [puts, Act.put, List.setIfInBounds_toArray, List.set_cons_zero, List.set_cons_succ] at hK ⊢
          go_simp
          exact hK _ _ (Below.refl _ _) rfl hg
        refine Each.cons (fun vs W hl => ?_) ?_
        · apply with10 hl
          clear hl vs
          intro v0 v1 v2 v3 v4 v5 v6 v7 v8 v9 hg hnew hd K hK
          have d2 : v2 = Value.pointer (some ⟨g, off + k * 9, none⟩) := hd 2 v2 (by kernel_rfl) rfl
          subst d2
          clear hd
          clear hnew
          rw [if_pos (by kernel_rfl)]
          simp only [puts, Act.put, List.setIfInBounds_toArray, List.set_cons_zero, List.set_cons_succ] at hK ⊢
          have e0 := (below_cell hg (World.block_lt_of_cell? wr _ D0.out)).trans D0.out
          have e1 := (below_cell hg (World.block_lt_of_cell? wr _ D1.out)).trans D1.out
          have e2 := (below_cell hg (World.block_lt_of_cell? wr _ D2.out)).trans D2.out
          have e3 := (below_cell hg (World.block_lt_of_cell? wr _ D3.out)).trans D3.out
          have e4 := (below_cell hg (World.block_lt_of_cell? wr _ D4.out)).trans D4.out
          have e5 := (below_cell hg (World.block_lt_of_cell? wr _ D5.out)).trans D5.out
          have e6 := (below_cell hg (World.block_lt_of_cell? wr _ D6.out)).trans D6.out
          have e7 := (below_cell hg (World.block_lt_of_cell? wr _ D7.out)).trans D7.out
          have e8 := (below_cell hg (World.block_lt_of_cell? wr _ D8.out)).trans D8.out
          go_simp
          exact hK _ _ (Below.refl _ _) rfl hg
        refine Each.cons (fun vs W hl => ?_) ?_
        · apply with10 hl
          clear hl vs
          intro v0 v1 v2 v3 v4 v5 v6 v7 v8 v9 hg hnew hd K hK
          clear hd
          clear hnew
          rw [if_pos (by kernel_rfl)]
          simp only [puts, Act.put, List.setIfInBounds_toArray, List.set_cons_zero, List.set_cons_succ] at hK ⊢
          go_simp
          exact hK _ _ (Below.refl _ _) rfl hg
        refine Each.cons (fun vs W hl => ?_) ?_
        · apply with10 hl
          clear hl vs
          intro v0 v1 v2 v3 v4 v5 v6 v7 v8 v9 hg hnew hd K hK
          clear hd
          clear hnew
          rw [if_pos (by kernel_rfl)]
          simp only [puts, Act.put, List.setIfInBounds_toArray, List.set_cons_zero, List.set_cons_succ] at hK ⊢
          go_simp
          exact hK _ _ (Below.refl _ _) rfl hg
        refine Each.cons (fun vs W hl => ?_) ?_
        · apply with10 hl
          clear hl vs
          intro v0 v1 v2 v3 v4 v5 v6 v7 v8 v9 hg hnew hd K hK
          have d4 : v4 = Value.slice (some ⟨g', off', none⟩) n cy := hd 4 v4 (by kernel_rfl) rfl
          subst d4
          have d5 : v5 = Value.int IntKind.i64 (k : Int) := hd 5 v5 (by kernel_rfl) rfl
          subst d5
          clear hd
          clear hnew
          rw [if_pos (by kernel_rfl)]
          simp only [puts, Act.put, List.setIfInBounds_toArray, List.set_cons_zero, List.set_cons_succ] at hK ⊢
          go_simp
          exact hK _ _ (Below.refl _ _) rfl hg
        refine Each.cons (fun vs W hl => ?_) ?_
        · apply with10 hl
          clear hl vs
          intro v0 v1 v2 v3 v4 v5 v6 v7 v8 v9 hg hnew hd K hK
          have d6 : v6 = Value.pointer (some ⟨g', off' + k * 9, none⟩) := hd 6 v6 (by kernel_rfl) rfl
          subst d6
          clear hd
          clear hnew
          rw [if_pos (by kernel_rfl)]
          simp only [puts, Act.put, List.setIfInBounds_toArray, List.set_cons_zero, List.set_cons_succ] at hK ⊢
          have e0 := (below_cell hg (World.block_lt_of_cell? wr _ F0.out)).trans F0.out
          have e1 := (below_cell hg (World.block_lt_of_cell? wr _ F1.out)).trans F1.out
          have e2 := (below_cell hg (World.block_lt_of_cell? wr _ F2.out)).trans F2.out
          have e3 := (below_cell hg (World.block_lt_of_cell? wr _ F3.out)).trans F3.out
          have e4 := (below_cell hg (World.block_lt_of_cell? wr _ F4.out)).trans F4.out
          have e5 := (below_cell hg (World.block_lt_of_cell? wr _ F5.out)).trans F5.out
          have e6 := (below_cell hg (World.block_lt_of_cell? wr _ F6.out)).trans F6.out
          have e7 := (below_cell hg (World.block_lt_of_cell? wr _ F7.out)).trans F7.out
          have e8 := (below_cell hg (World.block_lt_of_cell? wr _ F8.out)).trans F8.out
          go_simp
          exact hK _ _ (Below.refl _ _) rfl hg
        refine Each.cons (fun vs W hl => ?_) ?_
        · apply with10 hl
          clear hl vs
          intro v0 v1 v2 v3 v4 v5 v6 v7 v8 v9 hg hnew hd K hK
          have d3 : v3 = Value.agg #[Value.int IntKind.i64 tr, Value.int IntKind.i64 sid, Value.int IntKind.i64 pa, Value.string sv, Value.string op, Value.int IntKind.i64 st, Value.int IntKind.i64 ln, Value.string sb, Value.slice vx m vc] := hd 3 v3 (by kernel_rfl) rfl
          subst d3
          have d7 : v7 = Value.agg #[Value.int IntKind.i64 tr2, Value.int IntKind.i64 sid2, Value.int IntKind.i64 pa2, Value.string sv2, Value.string op2, Value.int IntKind.i64 st2, Value.int IntKind.i64 ln2, Value.string sb2, Value.slice ux q uc] := hd 7 v7 (by kernel_rfl) rfl
          subst d7
          clear hd
          clear hnew
          rw [if_pos (by kernel_rfl)]
          simp only [puts, Act.put, List.setIfInBounds_toArray, List.set_cons_zero, List.set_cons_succ] at hK ⊢
          go_simp
          refine (HQ.out _ hg).mono ?_
          rintro e w' ⟨rfl, hk⟩
          exact hK _ _ hk rfl (below_below hg hk)
        refine Each.cons (fun vs W hl => ?_) ?_
        · apply with10 hl
          clear hl vs
          intro v0 v1 v2 v3 v4 v5 v6 v7 v8 v9 hg hnew hd K hK
          have d8 : v8 = Value.bool true := hd 8 v8 (by kernel_rfl) rfl
          subst d8
          clear hd
          clear hnew
          rw [if_pos (by kernel_rfl)]
          simp only [puts, Act.put, List.setIfInBounds_toArray, List.set_cons_zero, List.set_cons_succ] at hK ⊢
          go_simp
          exact hK _ _ (Below.refl _ _) rfl hg
        exact Each.nil
      · intro vs W hl
        apply with10 hl
        clear hl vs
        intro v0 v1 v2 v3 v4 v5 v6 v7 v8 v9 hg hall
        have d0 : v0 = Value.slice (some ⟨g, off, none⟩) n cx := hall 0 v0 rfl
        subst d0
        have d1 : v1 = Value.int IntKind.i64 (k : Int) := hall 1 v1 rfl
        subst d1
        have d2 : v2 = Value.pointer (some ⟨g, off + k * 9, none⟩) := hall 2 v2 rfl
        subst d2
        have d3 : v3 = Value.agg #[Value.int IntKind.i64 tr, Value.int IntKind.i64 sid, Value.int IntKind.i64 pa, Value.string sv, Value.string op, Value.int IntKind.i64 st, Value.int IntKind.i64 ln, Value.string sb, Value.slice vx m vc] := hall 3 v3 rfl
        subst d3
        have d4 : v4 = Value.slice (some ⟨g', off', none⟩) n cy := hall 4 v4 rfl
        subst d4
        have d5 : v5 = Value.int IntKind.i64 (k : Int) := hall 5 v5 rfl
        subst d5
        have d6 : v6 = Value.pointer (some ⟨g', off' + k * 9, none⟩) := hall 6 v6 rfl
        subst d6
        have d7 : v7 = Value.agg #[Value.int IntKind.i64 tr2, Value.int IntKind.i64 sid2, Value.int IntKind.i64 pa2, Value.string sv2, Value.string op2, Value.int IntKind.i64 st2, Value.int IntKind.i64 ln2, Value.string sb2, Value.slice ux q uc] := hall 7 v7 rfl
        subst d7
        have d8 : v8 = Value.bool true := hall 8 v8 rfl
        subst d8
        have d9 : v9 = Value.bool false := hall 9 v9 rfl
        subst d9
        clear hall
        simp only [puts, Act.put, List.setIfInBounds_toArray, List.set_cons_zero, List.set_cons_succ, List.take_succ_cons, List.take_zero, List.drop_succ_cons, List.drop_zero]
        have BR := hd (below_below HB.out hg)
        clear hg
        go_wp2_with fail
        go_roundw
        case rel =>
          refine ⟨k + 1, by omega, by go_num, BR.out, fun t h1 h2 ht => ?_⟩
          by_cases e : t = k
          · subst e
            exact HZ.out
          · exact HA.out t h1 h2 (by omega)
        case measure => simp [intOf]; omega

def sameBt (a b : BatchD) : Bool := a.ag == b.ag && a.sq == b.sq && sameL sameS a.sp b.sp

set_option maxRecDepth 100000 in
set_option maxHeartbeats 8000000 in
theorem sameB_any {w : World} {u v : Value} {xs ys : List SpanV} (ag sq ag2 sq2 : Int) (hx : Sps w u xs) (hy : Sps w v ys) :
    Calls Try.prog 6 #[.agg #[.int .i64 ag, .int .i64 sq, u], .agg #[.int .i64 ag2, .int .i64 sq2, v]] w fun e w' => VEnd w (.bool (sameBt ⟨ag, sq, spd xs⟩ ⟨ag2, sq2, spd ys⟩)) e w' := by
  obtain ⟨x0, cx, rfl⟩ := hx.el.form
  obtain ⟨y0, cy, rfl⟩ := hy.el.form
  obtain ⟨c, hc⟩ : ∃ c, sameBt ⟨ag, sq, spd xs⟩ ⟨ag2, sq2, spd ys⟩ = c := ⟨_, rfl⟩
  rw [hc]
  unfold sameBt at hc
  simp only at hc
  rw [← sameL_spd] at hc
  have HC := hd hc
  clear hc
  obtain ⟨n, hn⟩ : ∃ n, xs.length = n := ⟨_, rfl⟩
  obtain ⟨m, hm⟩ : ∃ m, ys.length = m := ⟨_, rfl⟩
  rw [hn] at hx ⊢
  rw [hm] at hy ⊢
  clear hn hm
  have k2 := below1 (w.alloc (Obj.cells #[Value.int IntKind.i64 ag, Value.int IntKind.i64 sq, Value.slice x0 n cx] 24)) (Obj.cells #[Value.int IntKind.i64 ag2, Value.int IntKind.i64 sq2, Value.slice y0 m cy] 24)
  have A1 := (Bk.new w 24 #[Value.int IntKind.i64 ag, Value.int IntKind.i64 sq, Value.slice x0 n cx]).keep k2
  have hz : (w.alloc (Obj.cells #[Value.int IntKind.i64 ag, Value.int IntKind.i64 sq, Value.slice x0 n cx] 24)).heap.size = w.heap.size + 1 := by simp
  have A2 := Bk.new (w.alloc (Obj.cells #[Value.int IntKind.i64 ag, Value.int IntKind.i64 sq, Value.slice x0 n cx] 24)) 24 #[Value.int IntKind.i64 ag2, Value.int IntKind.i64 sq2, Value.slice y0 m cy]
  rw [hz] at A2
  have BB := below2 w (Obj.cells #[Value.int IntKind.i64 ag, Value.int IntKind.i64 sq, Value.slice x0 n cx] 24) (Obj.cells #[Value.int IntKind.i64 ag2, Value.int IntKind.i64 sq2, Value.slice y0 m cy] 24)
  have HX := hd (hx.keep BB)
  have HY := hd (hy.keep BB)
  have B2 := hd BB
  have c0 := A1.cell 0
  have c1 := A1.cell 1
  have c2 := A1.cell 2
  have d0 := A2.cell 0
  have d1 := A2.cell 1
  have d2 := A2.cell 2
  simp at c0 c1 c2 d0 d1 d2
  clear hx hy k2 BB A1 A2 hz
  by_cases h_ag : ag = ag2
  case neg =>
    have e1 : (ag == ag2) = false := beq_eq_false_iff_ne.2 h_ag
    have HE := hd e1
    go_enter Try.func6, Try.ntmps6
    go_wp2_with fail
    go_ret
    exact VEnd.eq (VEnd.mk B2.out) (by rw [← HC.out]; simp [HE.out])
  subst h_ag
  by_cases h_sq : sq = sq2
  case neg =>
    have e1 : (sq == sq2) = false := beq_eq_false_iff_ne.2 h_sq
    have HE := hd e1
    go_enter Try.func6, Try.ntmps6
    go_wp2_with fail
    go_ret
    exact VEnd.eq (VEnd.mk B2.out) (by rw [← HC.out]; simp [HE.out])
  subst h_sq
  go_enter Try.func6, Try.ntmps6
  go_wp2_with fail
  refine (eqF_any HX.out HY.out).mono ?_
  rintro e w3 ⟨rfl, hk⟩
  have B3 := hd (below_below B2.out hk)
  clear hk
  go_wp2_with fail
  go_ret
  exact VEnd.eq (VEnd.mk B3.out) (by rw [← HC.out]; simp)

set_option maxRecDepth 100000 in
set_option maxHeartbeats 8000000 in
theorem rsameB_any {w : World} {u v : Value} {xs ys : List SpanV} (ag sq ag2 sq2 : Int) (hx : Sps w u xs) (hy : Sps w v ys) :
    Calls Try.prog 13 #[.agg #[.int .i64 ag, .int .i64 sq, u], .agg #[.int .i64 ag2, .int .i64 sq2, v]] w fun e w' => VEnd w (.bool (sameBt ⟨ag, sq, spd xs⟩ ⟨ag2, sq2, spd ys⟩)) e w' := by
  obtain ⟨x0, cx, rfl⟩ := hx.el.form
  obtain ⟨y0, cy, rfl⟩ := hy.el.form
  obtain ⟨c, hc⟩ : ∃ c, sameBt ⟨ag, sq, spd xs⟩ ⟨ag2, sq2, spd ys⟩ = c := ⟨_, rfl⟩
  rw [hc]
  unfold sameBt at hc
  simp only at hc
  rw [← sameL_spd] at hc
  have HC := hd hc
  clear hc
  obtain ⟨n, hn⟩ : ∃ n, xs.length = n := ⟨_, rfl⟩
  obtain ⟨m, hm⟩ : ∃ m, ys.length = m := ⟨_, rfl⟩
  rw [hn] at hx ⊢
  rw [hm] at hy ⊢
  clear hn hm
  have k2 := below1 (w.alloc (Obj.cells #[Value.int IntKind.i64 ag, Value.int IntKind.i64 sq, Value.slice x0 n cx] 24)) (Obj.cells #[Value.int IntKind.i64 ag2, Value.int IntKind.i64 sq2, Value.slice y0 m cy] 24)
  have A1 := (Bk.new w 24 #[Value.int IntKind.i64 ag, Value.int IntKind.i64 sq, Value.slice x0 n cx]).keep k2
  have hz : (w.alloc (Obj.cells #[Value.int IntKind.i64 ag, Value.int IntKind.i64 sq, Value.slice x0 n cx] 24)).heap.size = w.heap.size + 1 := by simp
  have A2 := Bk.new (w.alloc (Obj.cells #[Value.int IntKind.i64 ag, Value.int IntKind.i64 sq, Value.slice x0 n cx] 24)) 24 #[Value.int IntKind.i64 ag2, Value.int IntKind.i64 sq2, Value.slice y0 m cy]
  rw [hz] at A2
  have BB := below2 w (Obj.cells #[Value.int IntKind.i64 ag, Value.int IntKind.i64 sq, Value.slice x0 n cx] 24) (Obj.cells #[Value.int IntKind.i64 ag2, Value.int IntKind.i64 sq2, Value.slice y0 m cy] 24)
  have HX := hd (hx.keep BB)
  have HY := hd (hy.keep BB)
  have B2 := hd BB
  have c0 := A1.cell 0
  have c1 := A1.cell 1
  have c2 := A1.cell 2
  have d0 := A2.cell 0
  have d1 := A2.cell 1
  have d2 := A2.cell 2
  simp at c0 c1 c2 d0 d1 d2
  clear hx hy k2 BB A1 A2 hz
  by_cases h_ag : ag = ag2
  case neg =>
    have e1 : (ag == ag2) = false := beq_eq_false_iff_ne.2 h_ag
    have HE := hd e1
    go_enter Try.func13, Try.ntmps13
    go_wp2_with fail
    go_ret
    exact VEnd.eq (VEnd.mk B2.out) (by rw [← HC.out]; simp [HE.out])
  subst h_ag
  by_cases h_sq : sq = sq2
  case neg =>
    have e1 : (sq == sq2) = false := beq_eq_false_iff_ne.2 h_sq
    have HE := hd e1
    go_enter Try.func13, Try.ntmps13
    go_wp2_with fail
    go_ret
    exact VEnd.eq (VEnd.mk B2.out) (by rw [← HC.out]; simp [HE.out])
  subst h_sq
  go_enter Try.func13, Try.ntmps13
  go_wp2_with fail
  refine (rsameL_any HX.out HY.out).mono ?_
  rintro e w3 ⟨rfl, hk⟩
  have B3 := hd (below_below B2.out hk)
  clear hk
  go_wp2_with fail
  go_ret
  exact VEnd.eq (VEnd.mk B3.out) (by rw [← HC.out]; simp)

end Go.Proofs.Yteifaipbckhoiab
