/- VeilOrder: the law's walk. -/
import Derived.Test.YtcgimbomandjfaaL5
import Derived.Test.YtcgimbomandjfaaVo
import Derived.Test.YtcgimbomandjfaaPl
namespace Go.Proofs.Ytcgimbomandjfaa
open Go.RowKit
set_option linter.unusedVariables false

set_option maxRecDepth 100000 in
set_option maxHeartbeats 8000000 in
theorem order_walk (x p y q z r a b c : Int) (fab fbc fac fba eab : Bool) (w : World)
    (NX : Hid (∀ w, Calls Try.prog 32 #[.agg #[.int .i64 x, .int .u32 p]] w fun e w' => VEnd w (.agg #[.int .i64 a, .int .u32 p]) e w'))
    (NY : Hid (∀ w, Calls Try.prog 32 #[.agg #[.int .i64 y, .int .u32 q]] w fun e w' => VEnd w (.agg #[.int .i64 b, .int .u32 q]) e w'))
    (NZ : Hid (∀ w, Calls Try.prog 32 #[.agg #[.int .i64 z, .int .u32 r]] w fun e w' => VEnd w (.agg #[.int .i64 c, .int .u32 r]) e w'))
    (FAA : Hid (∀ w, Calls Try.prog 11 #[.agg #[.int .i64 a, .int .u32 p], .agg #[.int .i64 a, .int .u32 p]] w fun e w' => VEnd w (.bool true) e w'))
    (FAB : Hid (∀ w, Calls Try.prog 11 #[.agg #[.int .i64 a, .int .u32 p], .agg #[.int .i64 b, .int .u32 q]] w fun e w' => VEnd w (.bool fab) e w'))
    (FBC : Hid (∀ w, Calls Try.prog 11 #[.agg #[.int .i64 b, .int .u32 q], .agg #[.int .i64 c, .int .u32 r]] w fun e w' => VEnd w (.bool fbc) e w'))
    (FAC : Hid (∀ w, Calls Try.prog 11 #[.agg #[.int .i64 a, .int .u32 p], .agg #[.int .i64 c, .int .u32 r]] w fun e w' => VEnd w (.bool fac) e w'))
    (FBA : Hid (∀ w, Calls Try.prog 11 #[.agg #[.int .i64 b, .int .u32 q], .agg #[.int .i64 a, .int .u32 p]] w fun e w' => VEnd w (.bool fba) e w'))
    (F0A : Hid (∀ w, Calls Try.prog 11 #[.agg #[.int .i64 0, .int .u32 0], .agg #[.int .i64 a, .int .u32 p]] w fun e w' => VEnd w (.bool true) e w'))
    (FA7 : Hid (∀ w, Calls Try.prog 11 #[.agg #[.int .i64 a, .int .u32 p], .agg #[.int .i64 7, .int .u32 4294967295]] w fun e w' => VEnd w (.bool true) e w'))
    (EAB : Hid (∀ w, (Op.equalIn 10000 24 (.agg #[.int .i64 a, .int .u32 p]) (.agg #[.int .i64 b, .int .u32 q])).run Try.prog w = .ok eab w))
    (L1 : Hid (fab = true → fba = true → eab = true)) (L2 : Hid (fab = true → fbc = true → fac = true)) :
    Calls Try.prog 5 #[.agg #[.int .i64 x, .int .u32 p], .agg #[.int .i64 y, .int .u32 q], .agg #[.int .i64 z, .int .u32 r]] w fun e w' => VEnd w (.bool true) e w' := by
  go_enter Try.func5, Try.ntmps5
  go_wp2_with fail
  have A := L3.first w x p y q z r
  generalize hN : w.heap.size = N at *
  have HN := hd hN
  clear hN
  generalize ((w.alloc (Obj.cells #[Value.int IntKind.i64 x, Value.int IntKind.u32 p] 24)).alloc (Obj.cells #[Value.int IntKind.i64 y, Value.int IntKind.u32 q] 24)).alloc (Obj.cells #[Value.int IntKind.i64 z, Value.int IntKind.u32 r] 24) = w1 at *
  refine (works_true w1).mono ?_
  rintro e w2 ⟨rfl, hk⟩
  have A2 := A.call hk
  clear A hk
  go_wp2_with fail
  refine wp_region_each 6 (fun W W' => Below W.heap.size W W') (fun i v W => match i with | 0 => v = Value.agg #[Value.int IntKind.i64 x, Value.int IntKind.u32 p] | 1 => v = Value.agg #[Value.int IntKind.i64 a, Value.int IntKind.u32 p] | 2 => v = Value.agg #[Value.int IntKind.i64 y, Value.int IntKind.u32 q] | 3 => v = Value.agg #[Value.int IntKind.i64 b, Value.int IntKind.u32 q] | 4 => v = Value.agg #[Value.int IntKind.i64 z, Value.int IntKind.u32 r] | 5 => v = Value.agg #[Value.int IntKind.i64 c, Value.int IntKind.u32 r] | _ => True) (fun _ W => L3 w N x p y q z r W) (by kernel_rfl) (by kernel_rfl) (fun _ _ _ _ _ h => h) (A2.drew) ?_ ?_
  · simp only [List.take_succ_cons, List.take_zero]
    refine Each.cons (fun vs W hl => ?_) ?_
    · apply with6 hl
      clear hl vs
      intro v0 v1 v2 v3 v4 v5 hg hd K hK
      clear hd
      rw [if_pos (by kernel_rfl)]
      simp only [puts, Act.put, List.setIfInBounds_toArray, List.set_cons_zero, List.set_cons_succ] at hK ⊢
      have c0 := hg.a.c0
      have c1 := hg.a.c1
      go_simp
      exact hK _ _ (Below.refl _ _) rfl hg
    refine Each.cons (fun vs W hl => ?_) ?_
    · apply with6 hl
      clear hl vs
      intro v0 v1 v2 v3 v4 v5 hg hd K hK
      have d0 : v0 = Value.agg #[Value.int IntKind.i64 x, Value.int IntKind.u32 p] := hd 0 v0 (by kernel_rfl) rfl
      subst d0
      clear hd
      rw [if_pos (by kernel_rfl)]
      simp only [puts, Act.put, List.setIfInBounds_toArray, List.set_cons_zero, List.set_cons_succ] at hK ⊢
      go_simp
      refine (NX.out _).mono ?_
      rintro e w' ⟨rfl, hk⟩
      exact hK _ _ hk rfl (hg.call hk)
    refine Each.cons (fun vs W hl => ?_) ?_
    · apply with6 hl
      clear hl vs
      intro v0 v1 v2 v3 v4 v5 hg hd K hK
      clear hd
      rw [if_pos (by kernel_rfl)]
      simp only [puts, Act.put, List.setIfInBounds_toArray, List.set_cons_zero, List.set_cons_succ] at hK ⊢
      have c0 := hg.b.c0
      have c1 := hg.b.c1
      go_simp
      exact hK _ _ (Below.refl _ _) rfl hg
    refine Each.cons (fun vs W hl => ?_) ?_
    · apply with6 hl
      clear hl vs
      intro v0 v1 v2 v3 v4 v5 hg hd K hK
      have d2 : v2 = Value.agg #[Value.int IntKind.i64 y, Value.int IntKind.u32 q] := hd 2 v2 (by kernel_rfl) rfl
      subst d2
      clear hd
      rw [if_pos (by kernel_rfl)]
      simp only [puts, Act.put, List.setIfInBounds_toArray, List.set_cons_zero, List.set_cons_succ] at hK ⊢
      go_simp
      refine (NY.out _).mono ?_
      rintro e w' ⟨rfl, hk⟩
      exact hK _ _ hk rfl (hg.call hk)
    refine Each.cons (fun vs W hl => ?_) ?_
    · apply with6 hl
      clear hl vs
      intro v0 v1 v2 v3 v4 v5 hg hd K hK
      clear hd
      rw [if_pos (by kernel_rfl)]
      simp only [puts, Act.put, List.setIfInBounds_toArray, List.set_cons_zero, List.set_cons_succ] at hK ⊢
      have c0 := hg.c.c0
      have c1 := hg.c.c1
      go_simp
      exact hK _ _ (Below.refl _ _) rfl hg
    refine Each.cons (fun vs W hl => ?_) ?_
    · apply with6 hl
      clear hl vs
      intro v0 v1 v2 v3 v4 v5 hg hd K hK
      have d4 : v4 = Value.agg #[Value.int IntKind.i64 z, Value.int IntKind.u32 r] := hd 4 v4 (by kernel_rfl) rfl
      subst d4
      clear hd
      rw [if_pos (by kernel_rfl)]
      simp only [puts, Act.put, List.setIfInBounds_toArray, List.set_cons_zero, List.set_cons_succ] at hK ⊢
      go_simp
      refine (NZ.out _).mono ?_
      rintro e w' ⟨rfl, hk⟩
      exact hK _ _ hk rfl (hg.call hk)
    exact Each.nil
  · intro vs W hl
    apply with6 hl
    clear hl vs
    intro v0 v1 v2 v3 v4 v5 hg hall
    have d0 : v0 = Value.agg #[Value.int IntKind.i64 x, Value.int IntKind.u32 p] := hall 0 v0 rfl
    subst d0
    have d1 : v1 = Value.agg #[Value.int IntKind.i64 a, Value.int IntKind.u32 p] := hall 1 v1 rfl
    subst d1
    have d2 : v2 = Value.agg #[Value.int IntKind.i64 y, Value.int IntKind.u32 q] := hall 2 v2 rfl
    subst d2
    have d3 : v3 = Value.agg #[Value.int IntKind.i64 b, Value.int IntKind.u32 q] := hall 3 v3 rfl
    subst d3
    have d4 : v4 = Value.agg #[Value.int IntKind.i64 z, Value.int IntKind.u32 r] := hall 4 v4 rfl
    subst d4
    have d5 : v5 = Value.agg #[Value.int IntKind.i64 c, Value.int IntKind.u32 r] := hall 5 v5 rfl
    subst d5
    clear hall
    simp only [puts, Act.put, List.setIfInBounds_toArray, List.set_cons_zero, List.set_cons_succ, List.take_succ_cons, List.take_zero, List.drop_succ_cons, List.drop_zero]
    have f0 := hg.a.fz 0
    have f1 := hg.a.fz 1
    have f2 := hg.b.fz 0
    have f3 := hg.b.fz 1
    have f4 := hg.c.fz 0
    have f5 := hg.c.fz 1
    have c0 := hg.a.c0
    have c1 := hg.a.c1
    have c2 := hg.b.c0
    have c3 := hg.b.c1
    have c4 := hg.c.c0
    have c5 := hg.c.c1
    go_wp2_with fail
    have A3 := ((hg.setA a p).setB b q).setC c r
    clear f0 f1 f2 f3 f4 f5 c0 c1 c2 c3 c4 c5 hg A2
    generalize (((((W.setCell ⟨N, 0, none⟩ (.int .i64 a)).setCell ⟨N, 1, none⟩ (.int .u32 p)).setCell ⟨N + 1, 0, none⟩ (.int .i64 b)).setCell ⟨N + 1, 1, none⟩ (.int .u32 q)).setCell ⟨N + 2, 0, none⟩ (.int .i64 c)).setCell ⟨N + 2, 1, none⟩ (.int .u32 r) = w3 at *
    clear W
    have A := A3
    clear A3
    have c0 := Ltr.c0 A.a
    have c1 := Ltr.c1 A.a
    have c2 := Ltr.c0 A.b
    have c3 := Ltr.c1 A.b
    have c4 := Ltr.c0 A.c
    have c5 := Ltr.c1 A.c
    have hany := Ltr.any w3
    go_wp2_with fail
    refine wp_region_later (by kernel_rfl) (by kernel_rfl) ?_
    repeat (go_big_quiet_step (first | (go_at_call 11; with_reducible exact later_of (FAB.out _)) | (go_at_call 11; with_reducible exact later_of (FBC.out _)) | (go_at_call 11; with_reducible exact later_of (FAC.out _)) | fail))
    refine wpQuiet_nil ?_
    rintro _ ⟨s, rfl⟩
    have A4 := A.call s.bel
    clear c0 c1 c2 c3 c4 c5 A hany
    generalize s.wd = w4 at *
    clear s
    have A := A4
    clear A4
    have c0 := Ltr.c0 A.a
    have c1 := Ltr.c1 A.a
    have c2 := Ltr.c0 A.b
    have c3 := Ltr.c1 A.b
    have c4 := Ltr.c0 A.c
    have c5 := Ltr.c1 A.c
    have hany := Ltr.any w4
    go_wp2_with fail
    have e24 := EAB.out
    have HB := hd A.bel
    clear A
    have l1 := L1.out
    have l2 := L2.out
    clear L1 L2 EAB
    have hc : fab = false ∨ (fab = true ∧ fba = false ∧ fbc = false) ∨ (fab = true ∧ fba = false ∧ fbc = true ∧ fac = true) ∨ (fab = true ∧ fba = true ∧ eab = true ∧ fbc = false) ∨ (fab = true ∧ fba = true ∧ eab = true ∧ fbc = true ∧ fac = true) := by
      clear e24 FAA FAB FBC FAC FBA F0A FA7 c0 c1 c2 c3 c4 c5 hany NX NY NZ
      cases fab <;> cases fba <;> cases fbc <;> simp_all
    clear l1 l2
    rcases hc with rfl | ⟨rfl, rfl, rfl⟩ | ⟨rfl, rfl, rfl, rfl⟩ | ⟨rfl, rfl, rfl, rfl⟩ | ⟨rfl, rfl, rfl, rfl, rfl⟩
    all_goals
      refine wp_region_later (by kernel_rfl) (by kernel_rfl) ?_
      repeat (go_big_quiet_step (first | (go_at_call 33; exact later_of (at_any _ _ _)) | (go_at_call 11; with_reducible exact later_of (FAA.out _)) | (go_at_call 11; with_reducible exact later_of (FBA.out _)) | (go_at_call 11; with_reducible exact later_of (F0A.out _)) | (go_at_call 11; with_reducible exact later_of (FA7.out _)) | fail))
      refine wpQuiet_nil ?_
      rintro _ ⟨s, rfl⟩
      have HE := hd (below_below HB.out s.bel)
      clear c0 c1 c2 c3 c4 c5 hany e24
      go_wp2_with fail
      go_ret
      exact VEnd.mk HE.out

end Go.Proofs.Ytcgimbomandjfaa
