/- veil.Text. -/
import Derived.Test.YtcgimbomandjfabTa
import Derived.Test.YtcgimbomandjfabVc
namespace Go.Proofs.Ytcgimbomandjfab
open Go.RowKit
set_option linter.unusedVariables false

set_option maxRecDepth 100000 in
set_option maxHeartbeats 1000000 in
theorem text_bad (x p : Int) (w : World) (h : okL x = false) :
    Calls Try.prog 10 #[.agg #[.int .i64 x, .int .u32 p]] w fun e w' => VEnd w (.string ⟨#[]⟩) e w' := by
  have H := hd h
  clear h
  go_enter Try.func10, Try.ntmps10
  go_wp2_with fail
  refine (check_any x p _).mono ?_
  rintro e w2 ⟨rfl, hk⟩
  have B := hd (below_below (below1 w (Obj.cells #[Value.int IntKind.i64 x, Value.int IntKind.u32 p] 24)) hk)
  clear hk
  rw [H.out]
  simp only [Bool.false_eq_true, if_false]
  go_wp2_with fail
  go_ret
  exact VEnd.mk B.out

set_option maxRecDepth 100000 in
set_option maxHeartbeats 1000000 in
theorem text_ok (x p : Nat) (w : World) (hx : x ≤ 7) (hp : p < 4294967296) :
    Calls Try.prog 10 #[.agg #[.int .i64 (x : Int), .int .u32 (p : Int)]] w fun e w' => VEnd w (.string (textOf x p)) e w' := by
  have H : Hid (okL (x : Int) = true) := hd (by unfold okL; simp; omega)
  go_enter Try.func10, Try.ntmps10
  go_wp2_with fail
  have A1 := Lb.new w (x : Int) (p : Int)
  have B1 := below1 w (Obj.cells #[Value.int IntKind.i64 (x : Int), Value.int IntKind.u32 (p : Int)] 24)
  generalize w.alloc (Obj.cells #[Value.int IntKind.i64 (x : Int), Value.int IntKind.u32 (p : Int)] 24) = w1 at *
  refine (check_any (x : Int) (p : Int) w1).mono ?_
  rintro e w2 ⟨rfl, hk⟩
  have B2 := hd (below_below B1 hk)
  have A2 := hd (A1.keep hk)
  have c0 := A2.out.c0
  have c1 := A2.out.c1
  clear hk A1 B1
  rw [H.out]
  simp only [if_true]
  go_wp2_with fail
  refine (written1 x w2 hx).mono ?_
  rintro e w3 ⟨rfl, hk⟩
  have B3 := hd (below_below B2.out hk)
  have A3 := hd (A2.out.keep hk)
  clear c0 c1 hk A2 B2
  have c0 := A3.out.c0
  have c1 := A3.out.c1
  by_cases h0 : p = 0
  · subst h0
    have HT : Hid (textOf x 0 = ⟨#[fgc x]⟩) := hd (by unfold textOf; rw [if_pos rfl])
    go_wp2_with fail
    go_ret
    exact VEnd.eq (VEnd.mk B3.out) (by rw [HT.out]; rfl)
  · have h0' : ((p : Int) == 0) = false := by rw [beq_eq_false_iff_ne]; omega
    have HT : Hid (textOf x p = ⟨(fgc x :: 58 :: text8 p).toArray⟩) := hd (by unfold textOf; rw [if_neg h0])
    go_wp2_with fail
    refine (written8 p _ hp).mono ?_
    rintro e w4 ⟨rfl, hk⟩
    have B4 := hd (below_below B3.out hk)
    clear hk
    go_wp2_with fail
    go_ret
    exact VEnd.eq (VEnd.mk B4.out) (by rw [HT.out]; rfl)

end Go.Proofs.Ytcgimbomandjfab
