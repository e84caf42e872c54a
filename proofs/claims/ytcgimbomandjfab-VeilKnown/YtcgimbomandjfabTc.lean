/- veil.Read, walked. -/
import Derived.Test.YtcgimbomandjfabTb
import Derived.Laws.ResultCell
namespace Go.Proofs.Ytcgimbomandjfab
open Go.RowKit
set_option linter.unusedVariables false

/-- A label and an error as results. -/
theorem res_lab_err {fn : Func} {p u : Tmp} (h : fn.results = #[.cell p 24, .tmp u]) (tmps : Array Value) (w : World) (g : Nat) (x y : Int)
    (hp : tmps.getD p undef = .pointer (some ⟨g, 0, none⟩)) (hg : Lb w g x y) :
    (results fn tmps).run Try.prog w = .ok (.tuple #[.agg #[.int .i64 x, .int .u32 y], tmps.getD u undef]) w := by
  rw [results_cell_tmp h, hp]
  have e := run_loadVar_row (P := Try.prog) w g 24 24 #[.int .i64 x, .int .u32 y] (0, 0) _ hg und24 rfl info24
  simp only [asAddr, Sem.run_pure, Result.andThen_ok, e]

/-- A label and an error. -/
def le (x p e : Int) : Value := .tuple #[.agg #[.int .i64 x, .int .u32 p], .int .i64 e]

set_option maxRecDepth 100000 in
set_option maxHeartbeats 2000000 in
theorem rd_miss (s : ByteArray) (v : Int) (o : Bool) (w : World) (hv0 : 0 ≤ v) (hv : v < 4294967296) (hc : firstIdx s 58 = -1) (h3 : ∀ w, Calls Try.prog 23 #[.string s, .int .i64 3, .int .i64 1] w fun e w' => VEnd w (.tuple #[.int .u32 v, .bool o]) e w') :
    Calls Try.prog 13 #[.string s] w fun e w' => VEnd w (if o then le v 0 0 else le 0 0 4) e w' := by
  have HC := hd hc
  have H3 := hd h3
  clear hc h3
  go_enter Try.func13, Try.ntmps13
  go_wp2_with fail
  have A1 := Lb.new w 0 0
  have B1 := below1 w (Obj.cells #[Value.int IntKind.i64 0, Value.int IntKind.u32 0] 24)
  generalize w.alloc (Obj.cells #[Value.int IntKind.i64 0, Value.int IntKind.u32 0] 24) = w1 at *
  refine (cut_miss s w1 HC.out).mono ?_
  rintro e w2 ⟨rfl, m, rfl⟩
  have A2 : Lb (w1.drewN m) w.heap.size 0 0 := A1
  have B2 : Below w.heap.size w (w1.drewN m) := below_drewN B1 m
  generalize w1.drewN m = w2 at *
  clear A1 B1
  go_wp2_with fail
  refine (H3.out _).mono ?_
  rintro e w3 ⟨rfl, hk⟩
  have A3 := hd (A2.keep hk)
  have B3 := hd (below_below B2 hk)
  clear A2 B2 hk
  have c0 := A3.out.c0
  have c1 := A3.out.c1
  have f0 := A3.out.fz 0
  have f1 := A3.out.fz 1
  cases o
  · go_wp2_with fail
    refine bodyPost_ret (res_lab_err rfl _ _ w.heap.size _ _ rfl ((A3.out.set0 _).set1 _)) rfl ?_
    exact VEnd.eq (VEnd.mk (below_set2 B3.out w.heap.size _ _ (Nat.le_refl _))) rfl
  · go_wp2_with fail
    refine bodyPost_ret (res_lab_err rfl _ _ w.heap.size _ _ rfl ((A3.out.set0 _).set1 _)) rfl ?_
    exact VEnd.eq (VEnd.mk (below_set2 B3.out w.heap.size _ _ (Nat.le_refl _))) rfl

set_option maxRecDepth 100000 in
set_option maxHeartbeats 2000000 in
theorem rd_hit (s : ByteArray) (i j n : Nat) (v v2 : Int) (o o2 : Bool) (w : World) (hv0 : 0 ≤ v) (hv : v < 4294967296) (hj : i + 1 = j) (hc : firstIdx s 58 = (i : Int)) (hn : s.size = n) (hi : i < n) (hb : n ≤ 140737488355328)
    (h3 : ∀ w, Calls Try.prog 23 #[.string (s.extract 0 i), .int .i64 3, .int .i64 1] w fun e w' => VEnd w (.tuple #[.int .u32 v, .bool o]) e w')
    (h4 : ∀ w, Calls Try.prog 23 #[.string (s.extract j n), .int .i64 4, .int .i64 8] w fun e w' => VEnd w (.tuple #[.int .u32 v2, .bool o2]) e w') :
    Calls Try.prog 13 #[.string s] w fun e w' => VEnd w (if o && o2 && !(v2 == 0) then le v v2 0 else le 0 0 4) e w' := by
  have HC := hd (cut_hit s i j n · hj hc hn hi hb)
  have H3 := hd h3
  have H4 := hd h4
  clear hc h3 h4 hj hn hi hb
  go_enter Try.func13, Try.ntmps13
  go_wp2_with fail
  have A1 := Lb.new w 0 0
  have B1 := below1 w (Obj.cells #[Value.int IntKind.i64 0, Value.int IntKind.u32 0] 24)
  generalize w.alloc (Obj.cells #[Value.int IntKind.i64 0, Value.int IntKind.u32 0] 24) = w1 at *
  refine (HC.out w1).mono ?_
  rintro e w2 ⟨rfl, m, rfl⟩
  have A2 : Lb (w1.drewN m) w.heap.size 0 0 := A1
  have B2 : Below w.heap.size w (w1.drewN m) := below_drewN B1 m
  generalize w1.drewN m = w2 at *
  generalize s.extract 0 i = sh at *
  generalize s.extract j n = st at *
  clear A1 B1
  go_wp2_with fail
  refine (H3.out _).mono ?_
  rintro e w3 ⟨rfl, hk⟩
  have A3 := hd (A2.keep hk)
  have B3 := hd (below_below B2 hk)
  clear A2 B2 hk
  have c0 := A3.out.c0
  have c1 := A3.out.c1
  have f0 := A3.out.fz 0
  have f1 := A3.out.fz 1
  cases o
  · go_wp2_with fail
    refine bodyPost_ret (res_lab_err rfl _ _ w.heap.size _ _ rfl ((A3.out.set0 _).set1 _)) rfl ?_
    exact VEnd.eq (VEnd.mk (below_set2 B3.out w.heap.size _ _ (Nat.le_refl _))) rfl
  · clear c0 c1 f0 f1
    go_wp2_with fail
    refine (H4.out _).mono ?_
    rintro e w4 ⟨rfl, hk⟩
    have A4 := hd (A3.out.keep hk)
    have B4 := hd (below_below B3.out hk)
    clear hk
    have c0 := A4.out.c0
    have c1 := A4.out.c1
    have f0 := A4.out.fz 0
    have f1 := A4.out.fz 1
    cases o2
    · go_wp2_with fail
      refine bodyPost_ret (res_lab_err rfl _ _ w.heap.size _ _ rfl ((A4.out.set0 _).set1 _)) rfl ?_
      exact VEnd.eq (VEnd.mk (below_set2 B4.out w.heap.size _ _ (Nat.le_refl _))) rfl
    · cases hz : (v2 == 0)
      all_goals
        go_wp2_with fail
        all_goals
          refine bodyPost_ret (res_lab_err rfl _ _ w.heap.size _ _ rfl ((A4.out.set0 _).set1 _)) rfl ?_
          exact VEnd.eq (VEnd.mk (below_set2 B4.out w.heap.size _ _ (Nat.le_refl _))) rfl

end Go.Proofs.Ytcgimbomandjfab
