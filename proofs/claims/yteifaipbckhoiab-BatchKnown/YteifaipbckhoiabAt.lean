/- Attributes that may be, both sides; slices.Concat of three rows. -/
import Derived.Test.YteifaipbckhoiabMv
import Derived.Test.YteifaipbckhoiabRnm
import Derived.Test.YteifaipbckhoiabMh
import Derived.Lib.AppendZeros
namespace Go.Proofs.Yteifaipbckhoiab
open Go.RowKit
set_option linter.unusedVariables false

/-- An attribute in cells. -/
def encA (a : AttrD) : List Value := [.string a.1, .int .i64 a.2.1, .int .u32 a.2.2.1, .int .i64 a.2.2.2.1, .int .i64 a.2.2.2.2.1, .string a.2.2.2.2.2]
abbrev A6 (a : AttrD) : Value := .agg #[.string a.1, .int .i64 a.2.1, .int .u32 a.2.2.1, .int .i64 a.2.2.2.1, .int .i64 a.2.2.2.2.1, .string a.2.2.2.2.2]

set_option maxRecDepth 100000 in
set_option maxHeartbeats 2000000 in
theorem checkA_cells (s : ByteArray) (x p k n : Int) (b : ByteArray) (w : World) : Calls Try.prog 62 #[.agg #[.string s, .int .i64 x, .int .u32 p, .int .i64 k, .int .i64 n, .string b]] w fun e w' => VEnd w (.int .i64 (if okA (s, x, p, k, n, b) then 0 else 80)) e w' := by
  obtain ⟨c, hc⟩ : ∃ c : Int, (if okA (s, x, p, k, n, b) then (0 : Int) else 80) = c := ⟨_, rfl⟩
  rw [hc]
  have HC := hd hc
  clear hc
  go_enter Try.func62, Try.ntmps62
  go_wp2_with fail
  have A1 := Bk.new w 44 #[Value.string s, Value.int IntKind.i64 x, Value.int IntKind.u32 p, Value.int IntKind.i64 k, Value.int IntKind.i64 n, Value.string b]
  have B1 := below1 w (Obj.cells #[Value.string s, Value.int IntKind.i64 x, Value.int IntKind.u32 p, Value.int IntKind.i64 k, Value.int IntKind.i64 n, Value.string b] 44)
  generalize w.alloc (Obj.cells #[Value.string s, Value.int IntKind.i64 x, Value.int IntKind.u32 p, Value.int IntKind.i64 k, Value.int IntKind.i64 n, Value.string b] 44) = w1 at *
  refine (isname_any s w1).mono ?_
  rintro e w2 ⟨rfl, hk⟩
  have B2 := hd (below_below B1 hk)
  have A2 := hd (A1.keep hk)
  clear A1 B1 hk
  cases hn : isNm s
  · have HN := hd hn
    clear hn
    go_wp2_with fail
    go_ret
    exact VEnd.eq (VEnd.mk B2.out) (by rw [← HC.out]; unfold okA; rw [HN.out]; rfl)
  · have HN := hd hn
    clear hn
    have c1 := A2.out.cell 1
    have c2 := A2.out.cell 2
    simp at c1 c2
    go_wp2_with fail
    refine (check_any x p w2).mono ?_
    rintro e w3 ⟨rfl, hk⟩
    have B3 := hd (below_below B2.out hk)
    have A3 := hd (A2.out.keep hk)
    clear hk c1 c2 A2 B2
    cases ho : okL x
    · have HO := hd ho
      clear ho
      simp only [Bool.false_eq_true, if_false]
      go_wp2_with fail
      go_ret
      exact VEnd.eq (VEnd.mk B3.out) (by rw [← HC.out]; unfold okA; rw [HN.out, HO.out]; rfl)
    · have HO := hd ho
      clear ho
      simp only [if_true]
      have c3 := A3.out.cell 3
      have c4 := A3.out.cell 4
      have c5 := A3.out.cell 5
      simp at c3 c4 c5
      cases hv : okV (k, n, b)
      all_goals
        have HV := hd hv
        clear hv
        go_wp2_with fail
        refine (checkV_any k n b w3).mono ?_
        rintro e w4 ⟨rfl, hk⟩
        have B4 := hd (below_below B3.out hk)
        rw [HV.out]
        clear hk c3 c4 c5
        first | simp only [Bool.false_eq_true, if_false] | simp only [if_true]
        go_wp2_with fail
        go_ret
        exact VEnd.eq (VEnd.mk B4.out) (by rw [← HC.out]; unfold okA; rw [HN.out, HO.out, HV.out]; rfl)

theorem checkA_any (a : AttrD) (w : World) : Calls Try.prog 62 #[A6 a] w fun e w' => VEnd w (.int .i64 (if okA a then 0 else 80)) e w' := checkA_cells _ _ _ _ _ _ w
end Go.Proofs.Yteifaipbckhoiab
