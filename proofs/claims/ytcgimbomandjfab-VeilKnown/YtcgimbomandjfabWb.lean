/- The chapter's examples hold: works answers true. -/
import Derived.Test.YtcgimbomandjfabWa
namespace Go.Proofs.Ytcgimbomandjfab
open Go.RowKit
set_option linter.unusedVariables false

/-- A later world in which block g still holds this label. -/
structure SX (w : World) (g : Nat) (x p : Int) (W : World) : Prop where
  bel : Below w.heap.size w W
  lab : Lb W g x p

theorem SX.call {w W W' : World} {g : Nat} {x p : Int} (h : SX w g x p W) (k : Below W.heap.size W W') : SX w g x p W' := ⟨below_below h.bel k, h.lab.keep k⟩
theorem SX.drew {w W : World} {g : Nat} {x p : Int} (h : SX w g x p W) : SX w g x p W.drew := ⟨h.bel.drew, h.lab⟩
theorem SX.alloc {w W : World} {g : Nat} {x p : Int} (h : SX w g x p W) (o : Obj) : SX w g x p (W.alloc o) := h.call (below1 W o)
theorem SX.both {w W : World} {g : Nat} {x p : Int} (h : SX w g x p W) : W.cell? ⟨g, 0, none⟩ = some (.int .i64 x) ∧ W.cell? ⟨g, 1, none⟩ = some (.int .u32 p) ∧ SX w g x p W := ⟨h.lab.c0, h.lab.c1, h⟩

theorem flows_is (x p y q : Int) (w : World) (b : Bool) (hb : (okL x && okL y && decide (x ≤ y) && (bits .andNot .u32 p q == 0)) = b) :
    Calls Try.prog 7 #[.agg #[.int .i64 x, .int .u32 p], .agg #[.int .i64 y, .int .u32 q]] w fun e w' => VEnd w (.bool b) e w' := by
  have h := flows_any x p y q _ w rfl
  rw [hb] at h
  exact h
theorem meet_is (x p y q : Int) (w : World) (X P : Int) (hX : (if okL x && okL y then min x y else 0) = X) (hP : (if okL x && okL y then bits .and .u32 p q else 0) = P) :
    Calls Try.prog 9 #[.agg #[.int .i64 x, .int .u32 p], .agg #[.int .i64 y, .int .u32 q]] w fun e w' => VEnd w (.agg #[.int .i64 X, .int .u32 P]) e w' := by
  have h := meet_any x p y q _ w rfl
  rw [hX, hP] at h
  exact h
theorem join_is {w : World} {v : Value} {ls : List (Int × Int)} (h : Ls w v ls) (X P : Int) (hX : (if allOk ls then jX ls else 0) = X) (hP : (if allOk ls then jP ls else 0) = P) :
    Calls Try.prog 8 #[v] w fun e w' => VEnd w (.agg #[.int .i64 X, .int .u32 P]) e w' := by
  have h := join_any h
  rw [hX, hP] at h
  exact h

theorem text27 (w : World) : Calls Try.prog 10 #[.agg #[.int .i64 2, .int .u32 7]] w fun e w' => VEnd w (.string ⟨#[50, 58, 48, 48, 48, 48, 48, 48, 48, 55]⟩) e w' := by
  have h := text_ok 2 7 w (by omega) (by omega)
  rw [show textOf 2 7 = ⟨#[50, 58, 48, 48, 48, 48, 48, 48, 48, 55]⟩ from by decide +kernel] at h
  exact h

set_option maxRecDepth 100000 in
set_option maxHeartbeats 2000000 in
theorem works_true (w : World) : Calls Try.prog 14 #[] w fun e w' => VEnd w (.bool true) e w' := by
  go_enter Try.func14, Try.ntmps14
  go_wp2_with fail
  refine (vread_ok 3 0 _ (by omega) (by omega)).mono ?_
  rintro e w1 ⟨rfl, hk⟩
  have B1 := hd hk
  clear hk
  unfold le
  go_wp2_with fail
  have S1 : SX w w1.heap.size 3 0 (w1.alloc (Obj.cells #[Value.int IntKind.i64 3, Value.int IntKind.u32 0] 24)) := ⟨below_below B1.out (below1 _ _), Lb.new _ _ _⟩
  generalize w1.heap.size = g at *
  generalize w1.alloc (Obj.cells #[Value.int IntKind.i64 3, Value.int IntKind.u32 0] 24) = w1' at *
  refine (vread_bad _ _ (by decide) no8).mono ?_
  rintro e w2 ⟨rfl, hk⟩
  have S2 := S1.call hk
  clear hk S1 B1
  unfold le
  go_wp2_with fail
  have S3 := S2.alloc (Obj.cells #[Value.int IntKind.i64 0, Value.int IntKind.u32 0] 24)
  generalize w2.alloc (Obj.cells #[Value.int IntKind.i64 0, Value.int IntKind.u32 0] 24) = w2' at *
  refine (vread_bad _ _ (by decide) no30).mono ?_
  rintro e w3 ⟨rfl, hk⟩
  have S4 := S3.call hk
  clear hk S2 S3
  unfold le
  go_wp2_with fail
  have S5 := S4.alloc (Obj.cells #[Value.int IntKind.i64 0, Value.int IntKind.u32 0] 24)
  generalize w3.alloc (Obj.cells #[Value.int IntKind.i64 0, Value.int IntKind.u32 0] 24) = w3' at *
  refine (vread_bad _ _ (by decide) no3G).mono ?_
  rintro e w4 ⟨rfl, hk⟩
  have S6 := S5.call hk
  clear hk S4 S5
  unfold le
  go_wp2_with fail
  have S7 := S6.alloc (Obj.cells #[Value.int IntKind.i64 0, Value.int IntKind.u32 0] 24)
  generalize w4.alloc (Obj.cells #[Value.int IntKind.i64 0, Value.int IntKind.u32 0] 24) = w5 at *
  clear S6
  have S8 := S7
  clear S7
  refine (at_any _ _ _).mono ?_
  rintro e w6 ⟨rfl, hk⟩
  have S9 := S8.call hk
  clear hk S8
  go_wp2_with fail
  refine (at_any _ _ _).mono ?_
  rintro e w7 ⟨rfl, hk⟩
  have S10 := S9.call hk
  clear hk S9
  go_wp2_with fail
  refine (flows_is 1 1 2 3 _ true (by decide)).mono ?_
  rintro e w8 ⟨rfl, hk⟩
  have S11 := S10.call hk
  clear hk S10
  go_wp2_with fail
  refine (at_any _ _ _).mono ?_
  rintro e w9 ⟨rfl, hk⟩
  have S12 := S11.call hk
  clear hk S11
  go_wp2_with fail
  refine (at_any _ _ _).mono ?_
  rintro e w10 ⟨rfl, hk⟩
  have S13 := S12.call hk
  clear hk S12
  go_wp2_with fail
  refine (flows_is 1 4 2 3 _ false (by decide)).mono ?_
  rintro e w11 ⟨rfl, hk⟩
  have S14 := S13.call hk
  clear hk S13
  go_wp2_with fail
  refine (at_any _ _ _).mono ?_
  rintro e w12 ⟨rfl, hk⟩
  have S15 := S14.call hk
  clear hk S14
  go_wp2_with fail
  refine (at_any _ _ _).mono ?_
  rintro e w13 ⟨rfl, hk⟩
  have S16 := S15.call hk
  clear hk S15
  go_wp2_with fail
  refine (flows_is 3 0 2 3 _ false (by decide)).mono ?_
  rintro e w14 ⟨rfl, hk⟩
  have S17 := S16.call hk
  clear hk S16
  go_wp2_with fail
  go_region_held3 (fun W => W.cell? ⟨g, 0, none⟩ = some (.int .i64 3) ∧ W.cell? ⟨g, 1, none⟩ = some (.int .u32 0) ∧ SX w g 3 0 W) (first | exact SX.both (SX.drew S17) | exact SX.both (SX.call (by go_split_ands; assumption) hk) | exact SX.both (SX.alloc (by go_split_ands; assumption) _)) (first
    | (go_at_call 4; refine (at_any _ _ _).mono ?_; rintro e w' ⟨rfl, hk⟩)
    | (go_at_call 8; refine (join_is (Ls.two _ 1 4 2 3) 2 7 (by decide) (by decide)).mono ?_; rintro e w' ⟨rfl, hk⟩)
    | (go_at_call 9; refine (meet_is 1 4 2 6 _ 1 4 (by decide) (by decide)).mono ?_; rintro e w' ⟨rfl, hk⟩)
    | (go_at_call 10; refine (text27 _).mono ?_; rintro e w' ⟨rfl, hk⟩)
    | fail)
  have SE : Hid (SX w g 3 0 _) := hd (by go_split_ands; assumption)
  go_wp2_with fail
  go_ret
  exact VEnd.mk SE.out.bel

end Go.Proofs.Ytcgimbomandjfab
