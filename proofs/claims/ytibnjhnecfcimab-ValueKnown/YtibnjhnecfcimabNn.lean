/- Readers that are none: nil; what ValueKnown's texts are read as. -/
import Derived.Test.YtibnjhnecfcimabWkv
import Derived.Test.YtibnjhnecfcimabShr
namespace Go.Proofs.Ytibnjhnecfcimab
open Go.RowKit
set_option linter.unusedVariables false

set_option maxHeartbeats 400000 in
theorem Err_nil (w : World) : Calls Try.prog 10 #[.pointer none] w fun e w' => e = .returned (.int .i64 1) ∧ w' = w := by
  go_enter Try.func10, Try.ntmps10
  go_wp2
  go_ret
  exact ⟨rfl, rfl⟩
set_option maxHeartbeats 400000 in
theorem takeI_nil (w : World) (most : Int) (f : Value) : Calls Try.prog 46 #[.pointer none, f, .int .i64 most] w fun e w' => e = .returned (.int .i64 0) ∧ w' = w := by
  go_enter Try.func46, Try.ntmps46
  go_wp2_with (go_at_call 10; refine (Err_nil _).mono ?_; rintro e w' ⟨rfl, rfl⟩)
  go_ret
  exact ⟨rfl, rfl⟩
set_option maxHeartbeats 400000 in
theorem U_nil (w : World) : Calls Try.prog 25 #[.pointer none] w fun e w' => e = .returned (.int .i64 0) ∧ w' = w := by
  go_enter Try.func25, Try.ntmps25
  go_wp2_with (go_at_call 46; refine (takeI_nil _ _ _).mono ?_; rintro e w' ⟨rfl, rfl⟩)
  go_ret
  exact ⟨rfl, rfl⟩
set_option maxHeartbeats 400000 in
theorem Fail_nil (w : World) (e1 : Int) (h : e1 ≠ 0) : Calls Try.prog 28 #[.pointer none, .int .i64 e1] w fun e w' => e = .returned (.tuple #[]) ∧ w' = w := by
  have hn : (e1 == 0) = false := by simpa using h
  go_enter Try.func28, Try.ntmps28
  go_wp2_with (go_at_call 10; refine (Err_nil _).mono ?_; rintro e w' ⟨rfl, rfl⟩)
  go_returns
  exact ⟨rfl, rfl⟩
set_option maxRecDepth 100000 in
set_option maxHeartbeats 2000000 in
theorem TakeV_nil (w : World) : Calls Try.prog 9 #[.pointer none] w fun e w' => VEnd w (V3 valZ) e w' := by
  go_enter Try.func9, Try.ntmps9
  go_wp2_with fail
  have A := Bk.new w 25 #[Value.int IntKind.i64 0, Value.int IntKind.i64 0, Value.string ⟨#[]⟩]
  have B := below1 w (Obj.cells #[Value.int IntKind.i64 0, Value.int IntKind.i64 0, Value.string ⟨#[]⟩] 25)
  generalize w.alloc (Obj.cells #[Value.int IntKind.i64 0, Value.int IntKind.i64 0, Value.string ⟨#[]⟩] 25) = w1 at *
  refine (U_nil w1).mono ?_
  rintro e w2 ⟨rfl, rfl⟩
  go_wp2_with fail
  have NB := below1 w2 (Obj.cells #[Value.int IntKind.i64 0, Value.int IntKind.i64 0, Value.string ⟨#[]⟩] 25)
  have A2 := hd (A.keep NB)
  have B2 := hd (below_below B NB)
  clear A B NB
  generalize w2.alloc (Obj.cells #[Value.int IntKind.i64 0, Value.int IntKind.i64 0, Value.string ⟨#[]⟩] 25) = w3 at *
  refine (mayBe_any 0 0 ⟨#[]⟩ w3).mono ?_
  rintro e w4 ⟨rfl, hk⟩
  rw [show okV (0, 0, ⟨#[]⟩) = false from by decide +kernel]
  have A4 := hd (A2.out.keep hk)
  have B4 := hd (below_below B2.out hk)
  clear hk A2 B2
  go_wp2_with fail
  refine (Fail_nil w4 4 (by decide)).mono ?_
  rintro e w5 ⟨rfl, rfl⟩
  go_wp2_with fail
  refine (Err_nil w5).mono ?_
  rintro e w6 ⟨rfl, rfl⟩
  have a0 := A4.out.cell 0
  have a1 := A4.out.cell 1
  have a2 := A4.out.cell 2
  simp at a0 a1 a2
  have f0 := A4.out.fz 0
  have f1 := A4.out.fz 1
  have f2 := A4.out.fz 2
  go_wp2_with fail
  refine bodyPost_ret (res_val rfl _ _ w.heap.size _ _ _ _ _ rfl (A4.out.set3 (.int .i64 0) (.int .i64 0) (.string ⟨#[]⟩))) rfl ?_
  exact VEnd.mk (below_setCell (below_setCell (below_setCell B4.out _ _ (Nat.le_refl _)) _ _ (Nat.le_refl _)) _ _ (Nat.le_refl _))
set_option maxRecDepth 100000 in
set_option maxHeartbeats 1000000 in
theorem list_nil (w : World) (f : Value) : Calls Try.prog 29 #[.pointer none, .int .i64 8, f] w fun e w' => e = .returned (.slice none 0 0) ∧ w' = w := by
  go_enter Try.func29, Try.ntmps29
  go_wp2_with fail
  refine (U_nil w).mono ?_
  rintro e w2 ⟨rfl, rfl⟩
  go_wp2_with fail
  refine wp_loop_rounds 1 ?_
  rw [rounds_succ]
  go_wp2_with (go_at_call 10; refine (Err_nil _).mono ?_; rintro e w' ⟨rfl, rfl⟩)
  go_ret
  exact ⟨rfl, rfl⟩
set_option maxRecDepth 100000 in
set_option maxHeartbeats 1000000 in
theorem TakeL_nil (w : World) : Calls Try.prog 11 #[.pointer none] w fun e w' => VEnd w (.slice none 0 0) e w' := by
  go_enter Try.func11, Try.ntmps11
  go_wp2_with fail
  have B := below1 w (Obj.cells #[Value.pointer none] 39)
  generalize w.alloc (Obj.cells #[Value.pointer none] 39) = w1 at *
  refine (list_nil w1 _).mono ?_
  rintro e w2 ⟨rfl, rfl⟩
  go_wp2_with fail
  refine (listMay_any (xs := []) (Or.inl ⟨rfl, none, 0, rfl⟩)).mono ?_
  rintro e w3 ⟨rfl, hk⟩
  rw [show okAs [] = true from rfl]
  have B3 := hd (below_below B hk)
  clear hk
  go_wp2_with fail
  go_ret
  exact VEnd.mk B3.out

/-! The lists and rows of the law. -/
def atA : AttrD := (⟨#[97]⟩, 0, 0, 3, 0, ⟨#[]⟩)
def atB : AttrD := (⟨#[98]⟩, 0, 0, 3, 0, ⟨#[]⟩)
def badL (k : Nat) : List AttrD := match k with
  | 0 => [atB, atA]
  | 1 => [atA, atA]
  | 2 => [(⟨#[65]⟩, 0, 0, 3, 0, ⟨#[]⟩)]
  | 3 => [(⟨#[97]⟩, 0, 0, 0, 0, ⟨#[]⟩)]
  | _ => [(⟨#[97]⟩, 8, 0, 3, 0, ⟨#[]⟩)]
theorem badL_not (k : Nat) (hk : k < 5) : okAs (badL k) = false := by
  match k, hk with
  | 0, _ => decide +kernel
  | 1, _ => decide +kernel
  | 2, _ => decide +kernel
  | 3, _ => decide +kernel
  | 4, _ => decide +kernel
def nmA (i : Nat) : AttrD := (strOfNums [(97 + i : Int)], 0, 0, 3, 0, ⟨#[]⟩)
def nmL (k : Nat) : List AttrD := (List.range k).map nmA
theorem nmL_succ (k : Nat) : nmL (k + 1) = nmL k ++ [nmA k] := by unfold nmL; rw [List.range_succ, List.map_append]; rfl
theorem nmL_len (k : Nat) : (nmL k).length = k := by unfold nmL; simp
theorem nmL8 : okAs (nmL 8) = true := by decide +kernel
theorem nmL9 : okAs (nmL 9) = false := by decide +kernel
theorem nmL_take : (nmL 9).take 8 = nmL 8 := by decide +kernel
theorem nmL8_wf : ∀ a ∈ nmL 8, WfA a := by
  intro a ha
  unfold nmL at ha
  obtain ⟨i, _, rfl⟩ := List.mem_map.1 ha
  exact ⟨Int.le_refl 0, by show (0 : Int) ≤ 4294967295; decide⟩
def z70 : List Int := List.replicate 70 0
def wr (k : Nat) : List Int := match k with
  | 0 => [0]
  | 1 => [4, 0]
  | 2 => [3, 2]
  | _ => [2, 65]
def wrE (k : Nat) : Int := if k = 3 then 5 else 4
theorem wr_take (k : Nat) (hk : k < 4) : takeV (wr k ++ z70) 0 = (valZ, [], wrE k) := by
  match k, hk with
  | 0, _ => decide +kernel
  | 1, _ => decide +kernel
  | 2, _ => decide +kernel
  | 3, _ => decide +kernel
def ls (k : Nat) : List Int := match k with
  | 0 => [9]
  | 1 => [2, 1, 98, 0, 0, 3, 0, 1, 97, 0, 0, 3, 0]
  | 2 => [1, 1, 65, 0, 0, 3, 0]
  | _ => [1, 1, 97, 8, 0, 3, 0]
theorem ls_t0 : takeAs (ls 0) 0 = ([], [], 4) := by kernel_rfl
theorem ls_t1 : takeAs (ls 1) 0 = ([], [], 4) := by kernel_rfl
theorem ls_t2 : takeAs (ls 2) 0 = ([], [], 4) := by kernel_rfl
theorem ls_t3 : takeAs (ls 3) 0 = ([], [], 4) := by kernel_rfl
theorem ls_take (k : Nat) (hk : k < 4) : takeAs (ls k) 0 = ([], [], 4) := by
  match k, hk with
  | 0, _ => exact ls_t0
  | 1, _ => exact ls_t1
  | 2, _ => exact ls_t2
  | 3, _ => exact ls_t3
theorem cO1 : okV (1, 9007199254740991, ⟨#[]⟩) = true := by decide +kernel
theorem cO2 : okV (1, -9007199254740991, ⟨#[]⟩) = true := by decide +kernel
theorem cN1 : okV (1, 9007199254740992, ⟨#[]⟩) = false := by decide +kernel
theorem cN2 : okV (1, -9007199254740992, ⟨#[]⟩) = false := by decide +kernel
theorem cN3 : okV (2, 1, ⟨#[]⟩) = false := by decide +kernel
theorem cN4 : okV (3, -1, ⟨#[]⟩) = false := by decide +kernel
theorem cN5 : okV (0, 0, ⟨#[]⟩) = false := by decide +kernel
theorem cN6 : okV (3, 0, ⟨#[120]⟩) = false := by decide +kernel
theorem check_ok (k n : Int) (s : ByteArray) (h : okV (k, n, s) = true) (w : World) : Calls Try.prog 4 #[.agg #[.int .i64 k, .int .i64 n, .string s]] w fun e w' => VEnd w (.int .i64 0) e w' := by
  have hc := checkV_any k n s w
  rw [h] at hc
  exact hc

end Go.Proofs.Ytibnjhnecfcimab
