/- VeilLaws: the law's walk. -/
import Derived.Test.YtcgimbomandjfaaL5
import Derived.Test.YtcgimbomandjfaaVo
import Derived.Test.YtcgimbomandjfaaLs
namespace Go.Proofs.Ytcgimbomandjfaa
open Go.RowKit
set_option linter.unusedVariables false

set_option maxRecDepth 100000 in
set_option maxHeartbeats 8000000 in
theorem laws_walk (x p y q z r a b c jabx jabp jbcx jbcp jabcx jabcp mabx mabp mbcx mbcp macx macp mabcx mabcp ddx ddp : Int) (w : World)
    (NX : Hid (∀ w, Calls Try.prog 32 #[.agg #[.int .i64 x, .int .u32 p]] w fun e w' => VEnd w (.agg #[.int .i64 a, .int .u32 p]) e w'))
    (NY : Hid (∀ w, Calls Try.prog 32 #[.agg #[.int .i64 y, .int .u32 q]] w fun e w' => VEnd w (.agg #[.int .i64 b, .int .u32 q]) e w'))
    (NZ : Hid (∀ w, Calls Try.prog 32 #[.agg #[.int .i64 z, .int .u32 r]] w fun e w' => VEnd w (.agg #[.int .i64 c, .int .u32 r]) e w'))
    (JN0 : Hid (∀ w v, Ls w v [(a, p), (b, q)] → Calls Try.prog 13 #[v] w fun e w' => VEnd w (.agg #[.int .i64 jabx, .int .u32 jabp]) e w'))
    (JN1 : Hid (∀ w v, Ls w v [(b, q), (a, p)] → Calls Try.prog 13 #[v] w fun e w' => VEnd w (.agg #[.int .i64 jabx, .int .u32 jabp]) e w'))
    (JN2 : Hid (∀ w v, Ls w v [(jabx, jabp), (c, r)] → Calls Try.prog 13 #[v] w fun e w' => VEnd w (.agg #[.int .i64 jabcx, .int .u32 jabcp]) e w'))
    (JN3 : Hid (∀ w v, Ls w v [(a, p), (b, q), (c, r)] → Calls Try.prog 13 #[v] w fun e w' => VEnd w (.agg #[.int .i64 jabcx, .int .u32 jabcp]) e w'))
    (JN4 : Hid (∀ w v, Ls w v [(c, r), (b, q), (a, p)] → Calls Try.prog 13 #[v] w fun e w' => VEnd w (.agg #[.int .i64 jabcx, .int .u32 jabcp]) e w'))
    (JN5 : Hid (∀ w v, Ls w v [(b, q), (c, r)] → Calls Try.prog 13 #[v] w fun e w' => VEnd w (.agg #[.int .i64 jbcx, .int .u32 jbcp]) e w'))
    (JN6 : Hid (∀ w v, Ls w v [(a, p), (jbcx, jbcp)] → Calls Try.prog 13 #[v] w fun e w' => VEnd w (.agg #[.int .i64 jabcx, .int .u32 jabcp]) e w'))
    (JN7 : Hid (∀ w v, Ls w v [(a, p), (mabx, mabp)] → Calls Try.prog 13 #[v] w fun e w' => VEnd w (.agg #[.int .i64 a, .int .u32 p]) e w'))
    (JN8 : Hid (∀ w v, Ls w v [(a, p), (a, p)] → Calls Try.prog 13 #[v] w fun e w' => VEnd w (.agg #[.int .i64 a, .int .u32 p]) e w'))
    (JN9 : Hid (∀ w v, Ls w v [(a, p)] → Calls Try.prog 13 #[v] w fun e w' => VEnd w (.agg #[.int .i64 a, .int .u32 p]) e w'))
    (JN10 : Hid (∀ w v, Ls w v [] → Calls Try.prog 13 #[v] w fun e w' => VEnd w (.agg #[.int .i64 0, .int .u32 0]) e w'))
    (JN11 : Hid (∀ w v, Ls w v [(mabx, mabp), (macx, macp)] → Calls Try.prog 13 #[v] w fun e w' => VEnd w (.agg #[.int .i64 ddx, .int .u32 ddp]) e w'))
    (MT0 : Hid (∀ w, Calls Try.prog 15 #[.agg #[.int .i64 a, .int .u32 p], .agg #[.int .i64 b, .int .u32 q]] w fun e w' => VEnd w (.agg #[.int .i64 mabx, .int .u32 mabp]) e w'))
    (MT1 : Hid (∀ w, Calls Try.prog 15 #[.agg #[.int .i64 b, .int .u32 q], .agg #[.int .i64 a, .int .u32 p]] w fun e w' => VEnd w (.agg #[.int .i64 mabx, .int .u32 mabp]) e w'))
    (MT2 : Hid (∀ w, Calls Try.prog 15 #[.agg #[.int .i64 mabx, .int .u32 mabp], .agg #[.int .i64 c, .int .u32 r]] w fun e w' => VEnd w (.agg #[.int .i64 mabcx, .int .u32 mabcp]) e w'))
    (MT3 : Hid (∀ w, Calls Try.prog 15 #[.agg #[.int .i64 b, .int .u32 q], .agg #[.int .i64 c, .int .u32 r]] w fun e w' => VEnd w (.agg #[.int .i64 mbcx, .int .u32 mbcp]) e w'))
    (MT4 : Hid (∀ w, Calls Try.prog 15 #[.agg #[.int .i64 a, .int .u32 p], .agg #[.int .i64 mbcx, .int .u32 mbcp]] w fun e w' => VEnd w (.agg #[.int .i64 mabcx, .int .u32 mabcp]) e w'))
    (MT5 : Hid (∀ w, Calls Try.prog 15 #[.agg #[.int .i64 a, .int .u32 p], .agg #[.int .i64 jabx, .int .u32 jabp]] w fun e w' => VEnd w (.agg #[.int .i64 a, .int .u32 p]) e w'))
    (MT6 : Hid (∀ w, Calls Try.prog 15 #[.agg #[.int .i64 a, .int .u32 p], .agg #[.int .i64 a, .int .u32 p]] w fun e w' => VEnd w (.agg #[.int .i64 a, .int .u32 p]) e w'))
    (MT7 : Hid (∀ w, Calls Try.prog 15 #[.agg #[.int .i64 a, .int .u32 p], .agg #[.int .i64 jbcx, .int .u32 jbcp]] w fun e w' => VEnd w (.agg #[.int .i64 ddx, .int .u32 ddp]) e w'))
    (MT8 : Hid (∀ w, Calls Try.prog 15 #[.agg #[.int .i64 a, .int .u32 p], .agg #[.int .i64 c, .int .u32 r]] w fun e w' => VEnd w (.agg #[.int .i64 macx, .int .u32 macp]) e w')) :
    Calls Try.prog 7 #[.agg #[.int .i64 x, .int .u32 p], .agg #[.int .i64 y, .int .u32 q], .agg #[.int .i64 z, .int .u32 r]] w fun e w' => VEnd w (.bool true) e w' := by
  go_enter Try.func7, Try.ntmps7
  go_wp2_with fail
  have A := L3.first w x p y q z r
  generalize hN : w.heap.size = N at *
  have HN := hd hN
  clear hN
  generalize ((w.alloc (Obj.cells #[Value.int IntKind.i64 x, Value.int IntKind.u32 p] 24)).alloc (Obj.cells #[Value.int IntKind.i64 y, Value.int IntKind.u32 q] 24)).alloc (Obj.cells #[Value.int IntKind.i64 z, Value.int IntKind.u32 r] 24) = w1 at *
  refine (works_true w1).mono ?_
  rintro e w2 ⟨rfl, hk⟩
  have A2 := A.call hk
  clear A hk
  go_wp2_with fail
  refine wp_region_each 6 (fun W W' => Below W.heap.size W W') (fun i v W => match i with | 0 => v = Value.agg #[Value.int IntKind.i64 x, Value.int IntKind.u32 p] | 1 => v = Value.agg #[Value.int IntKind.i64 a, Value.int IntKind.u32 p] | 2 => v = Value.agg #[Value.int IntKind.i64 y, Value.int IntKind.u32 q] | 3 => v = Value.agg #[Value.int IntKind.i64 b, Value.int IntKind.u32 q] | 4 => v = Value.agg #[Value.int IntKind.i64 z, Value.int IntKind.u32 r] | 5 => v = Value.agg #[Value.int IntKind.i64 c, Value.int IntKind.u32 r] | _ => True) (fun _ W => L3 w N x p y q z r W) (by kernel_rfl) (by kernel_rfl) (fun _ _ _ _ _ h => h) (A2.drew) ?_ ?_
  · simp only [List.take_succ_cons, List.take_zero]
    refine Each.cons (fun vs W hl => ?_) ?_
    · apply with6 hl
      clear hl vs
      intro v0 v1 v2 v3 v4 v5 hg hd K hK
      clear hd
      rw [if_pos (by kernel_rfl)]
      simp only [puts, Act.put, List.setIfInBounds_toArray, List.set_cons_zero, List.set_cons_succ] at hK ⊢
      have c0 := hg.a.c0
      have c1 := hg.a.c1
      go_simp
      exact hK _ _ (Below.refl _ _) rfl hg
    refine Each.cons (fun vs W hl => ?_) ?_
    · apply with6 hl
      clear hl vs
      intro v0 v1 v2 v3 v4 v5 hg hd K hK
      have d0 : v0 = Value.agg #[Value.int IntKind.i64 x, Value.int IntKind.u32 p] := hd 0 v0 (by kernel_rfl) rfl
      subst d0
      clear hd
      rw [if_pos (by kernel_rfl)]
      simp only [puts, Act.put, List.setIfInBounds_toArray, List.set_cons_zero, List.set_cons_succ] at hK ⊢
      go_simp
      refine (NX.out _).mono ?_
      rintro e w' ⟨rfl, hk⟩
      exact hK _ _ hk rfl (hg.call hk)
    refine Each.cons (fun vs W hl => ?_) ?_
    · apply with6 hl
      clear hl vs
      intro v0 v1 v2 v3 v4 v5 hg hd K hK
      clear hd
      rw [if_pos (by kernel_rfl)]
      simp only [puts, Act.put, List.setIfInBounds_toArray, List.set_cons_zero, List.set_cons_succ] at hK ⊢
      have c0 := hg.b.c0
      have c1 := hg.b.c1
      go_simp
      exact hK _ _ (Below.refl _ _) rfl hg
    refine Each.cons (fun vs W hl => ?_) ?_
    · apply with6 hl
      clear hl vs
      intro v0 v1 v2 v3 v4 v5 hg hd K hK
      have d2 : v2 = Value.agg #[Value.int IntKind.i64 y, Value.int IntKind.u32 q] := hd 2 v2 (by kernel_rfl) rfl
      subst d2
      clear hd
      rw [if_pos (by kernel_rfl)]
      simp only [puts, Act.put, List.setIfInBounds_toArray, List.set_cons_zero, List.set_cons_succ] at hK ⊢
      go_simp
      refine (NY.out _).mono ?_
      rintro e w' ⟨rfl, hk⟩
      exact hK _ _ hk rfl (hg.call hk)
    refine Each.cons (fun vs W hl => ?_) ?_
    · apply with6 hl
      clear hl vs
      intro v0 v1 v2 v3 v4 v5 hg hd K hK
      clear hd
      rw [if_pos (by kernel_rfl)]
      simp only [puts, Act.put, List.setIfInBounds_toArray, List.set_cons_zero, List.set_cons_succ] at hK ⊢
      have c0 := hg.c.c0
      have c1 := hg.c.c1
      go_simp
      exact hK _ _ (Below.refl _ _) rfl hg
    refine Each.cons (fun vs W hl => ?_) ?_
    · apply with6 hl
      clear hl vs
      intro v0 v1 v2 v3 v4 v5 hg hd K hK
      have d4 : v4 = Value.agg #[Value.int IntKind.i64 z, Value.int IntKind.u32 r] := hd 4 v4 (by kernel_rfl) rfl
      subst d4
      clear hd
      rw [if_pos (by kernel_rfl)]
      simp only [puts, Act.put, List.setIfInBounds_toArray, List.set_cons_zero, List.set_cons_succ] at hK ⊢
      go_simp
      refine (NZ.out _).mono ?_
      rintro e w' ⟨rfl, hk⟩
      exact hK _ _ hk rfl (hg.call hk)
    exact Each.nil
  · intro vs W hl
    apply with6 hl
    clear hl vs
    intro v0 v1 v2 v3 v4 v5 hg hall
    have d0 : v0 = Value.agg #[Value.int IntKind.i64 x, Value.int IntKind.u32 p] := hall 0 v0 rfl
    subst d0
    have d1 : v1 = Value.agg #[Value.int IntKind.i64 a, Value.int IntKind.u32 p] := hall 1 v1 rfl
    subst d1
    have d2 : v2 = Value.agg #[Value.int IntKind.i64 y, Value.int IntKind.u32 q] := hall 2 v2 rfl
    subst d2
    have d3 : v3 = Value.agg #[Value.int IntKind.i64 b, Value.int IntKind.u32 q] := hall 3 v3 rfl
    subst d3
    have d4 : v4 = Value.agg #[Value.int IntKind.i64 z, Value.int IntKind.u32 r] := hall 4 v4 rfl
    subst d4
    have d5 : v5 = Value.agg #[Value.int IntKind.i64 c, Value.int IntKind.u32 r] := hall 5 v5 rfl
    subst d5
    clear hall
    simp only [puts, Act.put, List.setIfInBounds_toArray, List.set_cons_zero, List.set_cons_succ, List.take_succ_cons, List.take_zero, List.drop_succ_cons, List.drop_zero]
    have f0 := hg.a.fz 0
    have f1 := hg.a.fz 1
    have f2 := hg.b.fz 0
    have f3 := hg.b.fz 1
    have f4 := hg.c.fz 0
    have f5 := hg.c.fz 1
    have c0 := hg.a.c0
    have c1 := hg.a.c1
    have c2 := hg.b.c0
    have c3 := hg.b.c1
    have c4 := hg.c.c0
    have c5 := hg.c.c1
    go_wp2_with fail
    have A3 := ((hg.setA a p).setB b q).setC c r
    clear f0 f1 f2 f3 f4 f5 c0 c1 c2 c3 c4 c5 hg A2
    generalize (((((W.setCell ⟨N, 0, none⟩ (.int .i64 a)).setCell ⟨N, 1, none⟩ (.int .u32 p)).setCell ⟨N + 1, 0, none⟩ (.int .i64 b)).setCell ⟨N + 1, 1, none⟩ (.int .u32 q)).setCell ⟨N + 2, 0, none⟩ (.int .i64 c)).setCell ⟨N + 2, 1, none⟩ (.int .u32 r) = w3 at *
    clear W
    refine wp_region_each 19 (fun W W' => Below W.heap.size W W') (fun i v W => match i with | 0 => v = Value.agg #[Value.int IntKind.i64 a, Value.int IntKind.u32 p] | 1 => v = Value.agg #[Value.int IntKind.i64 b, Value.int IntKind.u32 q] | 2 => Ls W v [(a, p), (b, q)] | 3 => v = Value.agg #[Value.int IntKind.i64 jabx, Value.int IntKind.u32 jabp] | 4 => v = Value.agg #[Value.int IntKind.i64 b, Value.int IntKind.u32 q] | 5 => v = Value.agg #[Value.int IntKind.i64 a, Value.int IntKind.u32 p] | 6 => Ls W v [(b, q), (a, p)] | 7 => v = Value.agg #[Value.int IntKind.i64 jabx, Value.int IntKind.u32 jabp] | 8 => v = Value.bool true | 9 => v = Value.bool true | 10 => v = Value.agg #[Value.int IntKind.i64 a, Value.int IntKind.u32 p] | 11 => v = Value.agg #[Value.int IntKind.i64 b, Value.int IntKind.u32 q] | 12 => v = Value.agg #[Value.int IntKind.i64 mabx, Value.int IntKind.u32 mabp] | 13 => v = Value.agg #[Value.int IntKind.i64 b, Value.int IntKind.u32 q] | 14 => v = Value.agg #[Value.int IntKind.i64 a, Value.int IntKind.u32 p] | 15 => v = Value.agg #[Value.int IntKind.i64 mabx, Value.int IntKind.u32 mabp] | 16 => v = Value.bool true | 17 => v = Value.bool true | 18 => v = Value.bool true | _ => True) (fun _ W => L3 w N a p b q c r W) (by kernel_rfl) (by kernel_rfl) (fun j v W W' hE h => by
        match j with
        | 0 => exact h
        | 1 => exact h
        | 2 => exact Ls.keep h hE
        | 3 => exact h
        | 4 => exact h
        | 5 => exact h
        | 6 => exact Ls.keep h hE
        | 7 => exact h
        | 8 => exact h
        | 9 => exact h
        | 10 => exact h
        | 11 => exact h
        | 12 => exact h
        | 13 => exact h
        | 14 => exact h
        | 15 => exact h
        | 16 => exact h
        | 17 => exact h
        | 18 => exact h
        | _ + 19 => trivial) (A3.drew) ?_ ?_
    · simp only [List.take_succ_cons, List.take_zero]
      refine Each.cons (fun vs W hl => ?_) ?_
      · apply with19 hl
        clear hl vs
        intro v0 v1 v2 v3 v4 v5 v6 v7 v8 v9 v10 v11 v12 v13 v14 v15 v16 v17 v18 hg hd K hK
        clear hd
        rw [if_pos (by kernel_rfl)]
        simp only [puts, Act.put, List.setIfInBounds_toArray, List.set_cons_zero, List.set_cons_succ] at hK ⊢
        have c0 := hg.a.c0
        have c1 := hg.a.c1
        go_simp
        exact hK _ _ (Below.refl _ _) rfl hg
      refine Each.cons (fun vs W hl => ?_) ?_
      · apply with19 hl
        clear hl vs
        intro v0 v1 v2 v3 v4 v5 v6 v7 v8 v9 v10 v11 v12 v13 v14 v15 v16 v17 v18 hg hd K hK
        clear hd
        rw [if_pos (by kernel_rfl)]
        simp only [puts, Act.put, List.setIfInBounds_toArray, List.set_cons_zero, List.set_cons_succ] at hK ⊢
        have c0 := hg.b.c0
        have c1 := hg.b.c1
        go_simp
        exact hK _ _ (Below.refl _ _) rfl hg
      refine Each.cons (fun vs W hl => ?_) ?_
      · apply with19 hl
        clear hl vs
        intro v0 v1 v2 v3 v4 v5 v6 v7 v8 v9 v10 v11 v12 v13 v14 v15 v16 v17 v18 hg hd K hK
        have d0 : v0 = Value.agg #[Value.int IntKind.i64 a, Value.int IntKind.u32 p] := hd 0 v0 (by kernel_rfl) rfl
        subst d0
        have d1 : v1 = Value.agg #[Value.int IntKind.i64 b, Value.int IntKind.u32 q] := hd 1 v1 (by kernel_rfl) rfl
        subst d1
        clear hd
        rw [if_pos (by kernel_rfl)]
        simp only [puts, Act.put, List.setIfInBounds_toArray, List.set_cons_zero, List.set_cons_succ] at hK ⊢
        go_simp
        exact hK _ _ (below1 _ _) (Ls.two _ _ _ _ _) (hg.alloc _)
      refine Each.cons (fun vs W hl => ?_) ?_
      · apply with19 hl
        clear hl vs
        intro v0 v1 v2 v3 v4 v5 v6 v7 v8 v9 v10 v11 v12 v13 v14 v15 v16 v17 v18 hg hd K hK
        have d2 : Ls W v2 [(a, p), (b, q)] := hd 2 v2 (by kernel_rfl) rfl
        clear hd
        rw [if_pos (by kernel_rfl)]
        simp only [puts, Act.put, List.setIfInBounds_toArray, List.set_cons_zero, List.set_cons_succ] at hK ⊢
        go_simp
        refine (JN0.out _ _ d2).mono ?_
        rintro e w' ⟨rfl, hk⟩
        exact hK _ _ hk rfl (hg.call hk)
      refine Each.cons (fun vs W hl => ?_) ?_
      · apply with19 hl
        clear hl vs
        intro v0 v1 v2 v3 v4 v5 v6 v7 v8 v9 v10 v11 v12 v13 v14 v15 v16 v17 v18 hg hd K hK
        clear hd
        rw [if_pos (by kernel_rfl)]
        simp only [puts, Act.put, List.setIfInBounds_toArray, List.set_cons_zero, List.set_cons_succ] at hK ⊢
        have c0 := hg.b.c0
        have c1 := hg.b.c1
        go_simp
        exact hK _ _ (Below.refl _ _) rfl hg
      refine Each.cons (fun vs W hl => ?_) ?_
      · apply with19 hl
        clear hl vs
        intro v0 v1 v2 v3 v4 v5 v6 v7 v8 v9 v10 v11 v12 v13 v14 v15 v16 v17 v18 hg hd K hK
        clear hd
        rw [if_pos (by kernel_rfl)]
        simp only [puts, Act.put, List.setIfInBounds_toArray, List.set_cons_zero, List.set_cons_succ] at hK ⊢
        have c0 := hg.a.c0
        have c1 := hg.a.c1
        go_simp
        exact hK _ _ (Below.refl _ _) rfl hg
      refine Each.cons (fun vs W hl => ?_) ?_
      · apply with19 hl
        clear hl vs
        intro v0 v1 v2 v3 v4 v5 v6 v7 v8 v9 v10 v11 v12 v13 v14 v15 v16 v17 v18 hg hd K hK
        have d4 : v4 = Value.agg #[Value.int IntKind.i64 b, Value.int IntKind.u32 q] := hd 4 v4 (by kernel_rfl) rfl
        subst d4
        have d5 : v5 = Value.agg #[Value.int IntKind.i64 a, Value.int IntKind.u32 p] := hd 5 v5 (by kernel_rfl) rfl
        subst d5
        clear hd
        rw [if_pos (by kernel_rfl)]
        simp only [puts, Act.put, List.setIfInBounds_toArray, List.set_cons_zero, List.set_cons_succ] at hK ⊢
        go_simp
        exact hK _ _ (below1 _ _) (Ls.two _ _ _ _ _) (hg.alloc _)
      refine Each.cons (fun vs W hl => ?_) ?_
      · apply with19 hl
        clear hl vs
        intro v0 v1 v2 v3 v4 v5 v6 v7 v8 v9 v10 v11 v12 v13 v14 v15 v16 v17 v18 hg hd K hK
        have d6 : Ls W v6 [(b, q), (a, p)] := hd 6 v6 (by kernel_rfl) rfl
        clear hd
        rw [if_pos (by kernel_rfl)]
        simp only [puts, Act.put, List.setIfInBounds_toArray, List.set_cons_zero, List.set_cons_succ] at hK ⊢
        go_simp
        refine (JN1.out _ _ d6).mono ?_
        rintro e w' ⟨rfl, hk⟩
        exact hK _ _ hk rfl (hg.call hk)
      refine Each.cons (fun vs W hl => ?_) ?_
      · apply with19 hl
        clear hl vs
        intro v0 v1 v2 v3 v4 v5 v6 v7 v8 v9 v10 v11 v12 v13 v14 v15 v16 v17 v18 hg hd K hK
        have d3 : v3 = Value.agg #[Value.int IntKind.i64 jabx, Value.int IntKind.u32 jabp] := hd 3 v3 (by kernel_rfl) rfl
        subst d3
        have d7 : v7 = Value.agg #[Value.int IntKind.i64 jabx, Value.int IntKind.u32 jabp] := hd 7 v7 (by kernel_rfl) rfl
        subst d7
        clear hd
        rw [if_pos (by kernel_rfl)]
        simp only [puts, Act.put, List.setIfInBounds_toArray, List.set_cons_zero, List.set_cons_succ] at hK ⊢
        have e24 := eq24r
        go_simp
        exact hK _ _ (Below.refl _ _) rfl hg
      refine Each.cons (fun vs W hl => ?_) ?_
      · apply with19 hl
        clear hl vs
        intro v0 v1 v2 v3 v4 v5 v6 v7 v8 v9 v10 v11 v12 v13 v14 v15 v16 v17 v18 hg hd K hK
        have d8 : v8 = Value.bool true := hd 8 v8 (by kernel_rfl) rfl
        subst d8
        clear hd
        rw [if_pos (by kernel_rfl)]
        simp only [puts, Act.put, List.setIfInBounds_toArray, List.set_cons_zero, List.set_cons_succ] at hK ⊢
        go_simp
        exact hK _ _ (Below.refl _ _) rfl hg
      refine Each.cons (fun vs W hl => ?_) ?_
      · apply with19 hl
        clear hl vs
        intro v0 v1 v2 v3 v4 v5 v6 v7 v8 v9 v10 v11 v12 v13 v14 v15 v16 v17 v18 hg hd K hK
        have d9 : v9 = Value.bool true := hd 9 v9 (by kernel_rfl) rfl
        subst d9
        clear hd
        rw [if_pos (by kernel_rfl)]
        simp only [puts, Act.put, List.setIfInBounds_toArray, List.set_cons_zero, List.set_cons_succ] at hK ⊢
        have c0 := hg.a.c0
        have c1 := hg.a.c1
        go_simp
        exact hK _ _ (Below.refl _ _) rfl hg
      refine Each.cons (fun vs W hl => ?_) ?_
      · apply with19 hl
        clear hl vs
        intro v0 v1 v2 v3 v4 v5 v6 v7 v8 v9 v10 v11 v12 v13 v14 v15 v16 v17 v18 hg hd K hK
        have d9 : v9 = Value.bool true := hd 9 v9 (by kernel_rfl) rfl
        subst d9
        clear hd
        rw [if_pos (by kernel_rfl)]
        simp only [puts, Act.put, List.setIfInBounds_toArray, List.set_cons_zero, List.set_cons_succ] at hK ⊢
        have c0 := hg.b.c0
        have c1 := hg.b.c1
        go_simp
        exact hK _ _ (Below.refl _ _) rfl hg
      refine Each.cons (fun vs W hl => ?_) ?_
      · apply with19 hl
        clear hl vs
        intro v0 v1 v2 v3 v4 v5 v6 v7 v8 v9 v10 v11 v12 v13 v14 v15 v16 v17 v18 hg hd K hK
        have d9 : v9 = Value.bool true := hd 9 v9 (by kernel_rfl) rfl
        subst d9
        have d10 : v10 = Value.agg #[Value.int IntKind.i64 a, Value.int IntKind.u32 p] := hd 10 v10 (by kernel_rfl) rfl
        subst d10
        have d11 : v11 = Value.agg #[Value.int IntKind.i64 b, Value.int IntKind.u32 q] := hd 11 v11 (by kernel_rfl) rfl
        subst d11
        clear hd
        rw [if_pos (by kernel_rfl)]
        simp only [puts, Act.put, List.setIfInBounds_toArray, List.set_cons_zero, List.set_cons_succ] at hK ⊢
        go_simp
        refine (MT0.out _).mono ?_
        rintro e w' ⟨rfl, hk⟩
        exact hK _ _ hk rfl (hg.call hk)
      refine Each.cons (fun vs W hl => ?_) ?_
      · apply with19 hl
        clear hl vs
        intro v0 v1 v2 v3 v4 v5 v6 v7 v8 v9 v10 v11 v12 v13 v14 v15 v16 v17 v18 hg hd K hK
        have d9 : v9 = Value.bool true := hd 9 v9 (by kernel_rfl) rfl
        subst d9
        clear hd
        rw [if_pos (by kernel_rfl)]
        simp only [puts, Act.put, List.setIfInBounds_toArray, List.set_cons_zero, List.set_cons_succ] at hK ⊢
        have c0 := hg.b.c0
        have c1 := hg.b.c1
        go_simp
        exact hK _ _ (Below.refl _ _) rfl hg
      refine Each.cons (fun vs W hl => ?_) ?_
      · apply with19 hl
        clear hl vs
        intro v0 v1 v2 v3 v4 v5 v6 v7 v8 v9 v10 v11 v12 v13 v14 v15 v16 v17 v18 hg hd K hK
        have d9 : v9 = Value.bool true := hd 9 v9 (by kernel_rfl) rfl
        subst d9
        clear hd
        rw [if_pos (by kernel_rfl)]
        simp only [puts, Act.put, List.setIfInBounds_toArray, List.set_cons_zero, List.set_cons_succ] at hK ⊢
        have c0 := hg.a.c0
        have c1 := hg.a.c1
        go_simp
        exact hK _ _ (Below.refl _ _) rfl hg
      refine Each.cons (fun vs W hl => ?_) ?_
      · apply with19 hl
        clear hl vs
        intro v0 v1 v2 v3 v4 v5 v6 v7 v8 v9 v10 v11 v12 v13 v14 v15 v16 v17 v18 hg hd K hK
        have d9 : v9 = Value.bool true := hd 9 v9 (by kernel_rfl) rfl
        subst d9
        have d13 : v13 = Value.agg #[Value.int IntKind.i64 b, Value.int IntKind.u32 q] := hd 13 v13 (by kernel_rfl) rfl
        subst d13
        have d14 : v14 = Value.agg #[Value.int IntKind.i64 a, Value.int IntKind.u32 p] := hd 14 v14 (by kernel_rfl) rfl
        subst d14
        clear hd
        rw [if_pos (by kernel_rfl)]
        simp only [puts, Act.put, List.setIfInBounds_toArray, List.set_cons_zero, List.set_cons_succ] at hK ⊢
        go_simp
        refine (MT1.out _).mono ?_
        rintro e w' ⟨rfl, hk⟩
        exact hK _ _ hk rfl (hg.call hk)
      refine Each.cons (fun vs W hl => ?_) ?_
      · apply with19 hl
        clear hl vs
        intro v0 v1 v2 v3 v4 v5 v6 v7 v8 v9 v10 v11 v12 v13 v14 v15 v16 v17 v18 hg hd K hK
        have d9 : v9 = Value.bool true := hd 9 v9 (by kernel_rfl) rfl
        subst d9
        have d12 : v12 = Value.agg #[Value.int IntKind.i64 mabx, Value.int IntKind.u32 mabp] := hd 12 v12 (by kernel_rfl) rfl
        subst d12
        have d15 : v15 = Value.agg #[Value.int IntKind.i64 mabx, Value.int IntKind.u32 mabp] := hd 15 v15 (by kernel_rfl) rfl
        subst d15
        clear hd
        rw [if_pos (by kernel_rfl)]
        simp only [puts, Act.put, List.setIfInBounds_toArray, List.set_cons_zero, List.set_cons_succ] at hK ⊢
        have e24 := eq24r
        go_simp
        exact hK _ _ (Below.refl _ _) rfl hg
      refine Each.cons (fun vs W hl => ?_) ?_
      · apply with19 hl
        clear hl vs
        intro v0 v1 v2 v3 v4 v5 v6 v7 v8 v9 v10 v11 v12 v13 v14 v15 v16 v17 v18 hg hd K hK
        have d9 : v9 = Value.bool true := hd 9 v9 (by kernel_rfl) rfl
        subst d9
        have d16 : v16 = Value.bool true := hd 16 v16 (by kernel_rfl) rfl
        subst d16
        clear hd
        rw [if_pos (by kernel_rfl)]
        simp only [puts, Act.put, List.setIfInBounds_toArray, List.set_cons_zero, List.set_cons_succ] at hK ⊢
        go_simp
        exact hK _ _ (Below.refl _ _) rfl hg
      refine Each.cons (fun vs W hl => ?_) ?_
      · apply with19 hl
        clear hl vs
        intro v0 v1 v2 v3 v4 v5 v6 v7 v8 v9 v10 v11 v12 v13 v14 v15 v16 v17 v18 hg hd K hK
        have d17 : v17 = Value.bool true := hd 17 v17 (by kernel_rfl) rfl
        subst d17
        clear hd
        rw [if_pos (by kernel_rfl)]
        simp only [puts, Act.put, List.setIfInBounds_toArray, List.set_cons_zero, List.set_cons_succ] at hK ⊢
        go_simp
        exact hK _ _ (Below.refl _ _) rfl hg
      exact Each.nil
    · intro vs W hl
      apply with19 hl
      clear hl vs
      intro v0 v1 v2 v3 v4 v5 v6 v7 v8 v9 v10 v11 v12 v13 v14 v15 v16 v17 v18 hg hall
      have d0 : v0 = Value.agg #[Value.int IntKind.i64 a, Value.int IntKind.u32 p] := hall 0 v0 rfl
      subst d0
      have d1 : v1 = Value.agg #[Value.int IntKind.i64 b, Value.int IntKind.u32 q] := hall 1 v1 rfl
      subst d1
      have d2 : Ls W v2 [(a, p), (b, q)] := hall 2 v2 rfl
      have d3 : v3 = Value.agg #[Value.int IntKind.i64 jabx, Value.int IntKind.u32 jabp] := hall 3 v3 rfl
      subst d3
      have d4 : v4 = Value.agg #[Value.int IntKind.i64 b, Value.int IntKind.u32 q] := hall 4 v4 rfl
      subst d4
      have d5 : v5 = Value.agg #[Value.int IntKind.i64 a, Value.int IntKind.u32 p] := hall 5 v5 rfl
      subst d5
      have d6 : Ls W v6 [(b, q), (a, p)] := hall 6 v6 rfl
      have d7 : v7 = Value.agg #[Value.int IntKind.i64 jabx, Value.int IntKind.u32 jabp] := hall 7 v7 rfl
      subst d7
      have d8 : v8 = Value.bool true := hall 8 v8 rfl
      subst d8
      have d9 : v9 = Value.bool true := hall 9 v9 rfl
      subst d9
      have d10 : v10 = Value.agg #[Value.int IntKind.i64 a, Value.int IntKind.u32 p] := hall 10 v10 rfl
      subst d10
      have d11 : v11 = Value.agg #[Value.int IntKind.i64 b, Value.int IntKind.u32 q] := hall 11 v11 rfl
      subst d11
      have d12 : v12 = Value.agg #[Value.int IntKind.i64 mabx, Value.int IntKind.u32 mabp] := hall 12 v12 rfl
      subst d12
      have d13 : v13 = Value.agg #[Value.int IntKind.i64 b, Value.int IntKind.u32 q] := hall 13 v13 rfl
      subst d13
      have d14 : v14 = Value.agg #[Value.int IntKind.i64 a, Value.int IntKind.u32 p] := hall 14 v14 rfl
      subst d14
      have d15 : v15 = Value.agg #[Value.int IntKind.i64 mabx, Value.int IntKind.u32 mabp] := hall 15 v15 rfl
      subst d15
      have d16 : v16 = Value.bool true := hall 16 v16 rfl
      subst d16
      have d17 : v17 = Value.bool true := hall 17 v17 rfl
      subst d17
      have d18 : v18 = Value.bool true := hall 18 v18 rfl
      subst d18
      clear hall
      simp only [puts, Act.put, List.setIfInBounds_toArray, List.set_cons_zero, List.set_cons_succ, List.take_succ_cons, List.take_zero, List.drop_succ_cons, List.drop_zero]
      have A4 := hg
      clear hg A3
      clear d2 d6
      generalize W = w4 at *
      go_wp2_with fail
      refine wp_region_each 42 (fun W W' => Below W.heap.size W W') (fun i v W => match i with | 0 => v = Value.agg #[Value.int IntKind.i64 a, Value.int IntKind.u32 p] | 1 => v = Value.agg #[Value.int IntKind.i64 b, Value.int IntKind.u32 q] | 2 => Ls W v [(a, p), (b, q)] | 3 => v = Value.agg #[Value.int IntKind.i64 jabx, Value.int IntKind.u32 jabp] | 4 => v = Value.agg #[Value.int IntKind.i64 c, Value.int IntKind.u32 r] | 5 => Ls W v [(jabx, jabp), (c, r)] | 6 => v = Value.agg #[Value.int IntKind.i64 jabcx, Value.int IntKind.u32 jabcp] | 7 => v = Value.agg #[Value.int IntKind.i64 a, Value.int IntKind.u32 p] | 8 => v = Value.agg #[Value.int IntKind.i64 b, Value.int IntKind.u32 q] | 9 => v = Value.agg #[Value.int IntKind.i64 c, Value.int IntKind.u32 r] | 10 => Ls W v [(a, p), (b, q), (c, r)] | 11 => v = Value.agg #[Value.int IntKind.i64 jabcx, Value.int IntKind.u32 jabcp] | 12 => v = Value.bool true | 13 => v = Value.bool true | 14 => v = Value.agg #[Value.int IntKind.i64 c, Value.int IntKind.u32 r] | 15 => v = Value.agg #[Value.int IntKind.i64 b, Value.int IntKind.u32 q] | 16 => v = Value.agg #[Value.int IntKind.i64 a, Value.int IntKind.u32 p] | 17 => Ls W v [(c, r), (b, q), (a, p)] | 18 => v = Value.agg #[Value.int IntKind.i64 jabcx, Value.int IntKind.u32 jabcp] | 19 => v = Value.agg #[Value.int IntKind.i64 a, Value.int IntKind.u32 p] | 20 => v = Value.agg #[Value.int IntKind.i64 b, Value.int IntKind.u32 q] | 21 => v = Value.agg #[Value.int IntKind.i64 c, Value.int IntKind.u32 r] | 22 => Ls W v [(b, q), (c, r)] | 23 => v = Value.agg #[Value.int IntKind.i64 jbcx, Value.int IntKind.u32 jbcp] | 24 => Ls W v [(a, p), (jbcx, jbcp)] | 25 => v = Value.agg #[Value.int IntKind.i64 jabcx, Value.int IntKind.u32 jabcp] | 26 => v = Value.bool true | 27 => v = Value.bool true | 28 => v = Value.bool true | 29 => v = Value.agg #[Value.int IntKind.i64 a, Value.int IntKind.u32 p] | 30 => v = Value.agg #[Value.int IntKind.i64 b, Value.int IntKind.u32 q] | 31 => v = Value.agg #[Value.int IntKind.i64 mabx, Value.int IntKind.u32 mabp] | 32 => v = Value.agg #[Value.int IntKind.i64 c, Value.int IntKind.u32 r] | 33 => v = Value.agg #[Value.int IntKind.i64 mabcx, Value.int IntKind.u32 mabcp] | 34 => v = Value.agg #[Value.int IntKind.i64 a, Value.int IntKind.u32 p] | 35 => v = Value.agg #[Value.int IntKind.i64 b, Value.int IntKind.u32 q] | 36 => v = Value.agg #[Value.int IntKind.i64 c, Value.int IntKind.u32 r] | 37 => v = Value.agg #[Value.int IntKind.i64 mbcx, Value.int IntKind.u32 mbcp] | 38 => v = Value.agg #[Value.int IntKind.i64 mabcx, Value.int IntKind.u32 mabcp] | 39 => v = Value.bool true | 40 => v = Value.bool true | 41 => v = Value.bool true | _ => True) (fun _ W => L3 w N a p b q c r W) (by kernel_rfl) (by kernel_rfl) (fun j v W W' hE h => by
          match j with
          | 0 => exact h
          | 1 => exact h
          | 2 => exact Ls.keep h hE
          | 3 => exact h
          | 4 => exact h
          | 5 => exact Ls.keep h hE
          | 6 => exact h
          | 7 => exact h
          | 8 => exact h
          | 9 => exact h
          | 10 => exact Ls.keep h hE
          | 11 => exact h
          | 12 => exact h
          | 13 => exact h
          | 14 => exact h
          | 15 => exact h
          | 16 => exact h
          | 17 => exact Ls.keep h hE
          | 18 => exact h
          | 19 => exact h
          | 20 => exact h
          | 21 => exact h
          | 22 => exact Ls.keep h hE
          | 23 => exact h
          | 24 => exact Ls.keep h hE
          | 25 => exact h
          | 26 => exact h
          | 27 => exact h
          | 28 => exact h
          | 29 => exact h
          | 30 => exact h
          | 31 => exact h
          | 32 => exact h
          | 33 => exact h
          | 34 => exact h
          | 35 => exact h
          | 36 => exact h
          | 37 => exact h
          | 38 => exact h
          | 39 => exact h
          | 40 => exact h
          | 41 => exact h
          | _ + 42 => trivial) (A4.drew) ?_ ?_
      · simp only [List.take_succ_cons, List.take_zero]
        refine Each.cons (fun vs W hl => ?_) ?_
        · apply with42 hl
          clear hl vs
          intro v0 v1 v2 v3 v4 v5 v6 v7 v8 v9 v10 v11 v12 v13 v14 v15 v16 v17 v18 v19 v20 v21 v22 v23 v24 v25 v26 v27 v28 v29 v30 v31 v32 v33 v34 v35 v36 v37 v38 v39 v40 v41 hg hd K hK
          clear hd
          rw [if_pos (by kernel_rfl)]
          simp only [puts, Act.put, List.setIfInBounds_toArray, List.set_cons_zero, List.set_cons_succ] at hK ⊢
          have c0 := hg.a.c0
          have c1 := hg.a.c1
          go_simp
          exact hK _ _ (Below.refl _ _) rfl hg
        refine Each.cons (fun vs W hl => ?_) ?_
        · apply with42 hl
          clear hl vs
          intro v0 v1 v2 v3 v4 v5 v6 v7 v8 v9 v10 v11 v12 v13 v14 v15 v16 v17 v18 v19 v20 v21 v22 v23 v24 v25 v26 v27 v28 v29 v30 v31 v32 v33 v34 v35 v36 v37 v38 v39 v40 v41 hg hd K hK
          clear hd
          rw [if_pos (by kernel_rfl)]
          simp only [puts, Act.put, List.setIfInBounds_toArray, List.set_cons_zero, List.set_cons_succ] at hK ⊢
          have c0 := hg.b.c0
          have c1 := hg.b.c1
          go_simp
          exact hK _ _ (Below.refl _ _) rfl hg
        refine Each.cons (fun vs W hl => ?_) ?_
        · apply with42 hl
          clear hl vs
          intro v0 v1 v2 v3 v4 v5 v6 v7 v8 v9 v10 v11 v12 v13 v14 v15 v16 v17 v18 v19 v20 v21 v22 v23 v24 v25 v26 v27 v28 v29 v30 v31 v32 v33 v34 v35 v36 v37 v38 v39 v40 v41 hg hd K hK
          have d0 : v0 = Value.agg #[Value.int IntKind.i64 a, Value.int IntKind.u32 p] := hd 0 v0 (by kernel_rfl) rfl
          subst d0
          have d1 : v1 = Value.agg #[Value.int IntKind.i64 b, Value.int IntKind.u32 q] := hd 1 v1 (by kernel_rfl) rfl
          subst d1
          clear hd
          rw [if_pos (by kernel_rfl)]
          simp only [puts, Act.put, List.setIfInBounds_toArray, List.set_cons_zero, List.set_cons_succ] at hK ⊢
          go_simp
          exact hK _ _ (below1 _ _) (Ls.two _ _ _ _ _) (hg.alloc _)
        refine Each.cons (fun vs W hl => ?_) ?_
        · apply with42 hl
          clear hl vs
          intro v0 v1 v2 v3 v4 v5 v6 v7 v8 v9 v10 v11 v12 v13 v14 v15 v16 v17 v18 v19 v20 v21 v22 v23 v24 v25 v26 v27 v28 v29 v30 v31 v32 v33 v34 v35 v36 v37 v38 v39 v40 v41 hg hd K hK
          have d2 : Ls W v2 [(a, p), (b, q)] := hd 2 v2 (by kernel_rfl) rfl
          clear hd
          rw [if_pos (by kernel_rfl)]
          simp only [puts, Act.put, List.setIfInBounds_toArray, List.set_cons_zero, List.set_cons_succ] at hK ⊢
          go_simp
          refine (JN0.out _ _ d2).mono ?_
          rintro e w' ⟨rfl, hk⟩
          exact hK _ _ hk rfl (hg.call hk)
        refine Each.cons (fun vs W hl => ?_) ?_
        · apply with42 hl
          clear hl vs
          intro v0 v1 v2 v3 v4 v5 v6 v7 v8 v9 v10 v11 v12 v13 v14 v15 v16 v17 v18 v19 v20 v21 v22 v23 v24 v25 v26 v27 v28 v29 v30 v31 v32 v33 v34 v35 v36 v37 v38 v39 v40 v41 hg hd K hK
          clear hd
          rw [if_pos (by kernel_rfl)]
          simp only [puts, Act.put, List.setIfInBounds_toArray, List.set_cons_zero, List.set_cons_succ] at hK ⊢
          have c0 := hg.c.c0
          have c1 := hg.c.c1
          go_simp
          exact hK _ _ (Below.refl _ _) rfl hg
        refine Each.cons (fun vs W hl => ?_) ?_
        · apply with42 hl
          clear hl vs
          intro v0 v1 v2 v3 v4 v5 v6 v7 v8 v9 v10 v11 v12 v13 v14 v15 v16 v17 v18 v19 v20 v21 v22 v23 v24 v25 v26 v27 v28 v29 v30 v31 v32 v33 v34 v35 v36 v37 v38 v39 v40 v41 hg hd K hK
          have d3 : v3 = Value.agg #[Value.int IntKind.i64 jabx, Value.int IntKind.u32 jabp] := hd 3 v3 (by kernel_rfl) rfl
          subst d3
          have d4 : v4 = Value.agg #[Value.int IntKind.i64 c, Value.int IntKind.u32 r] := hd 4 v4 (by kernel_rfl) rfl
          subst d4
          clear hd
          rw [if_pos (by kernel_rfl)]
          simp only [puts, Act.put, List.setIfInBounds_toArray, List.set_cons_zero, List.set_cons_succ] at hK ⊢
          go_simp
          exact hK _ _ (below1 _ _) (Ls.two _ _ _ _ _) (hg.alloc _)
        refine Each.cons (fun vs W hl => ?_) ?_
        · apply with42 hl
          clear hl vs
          intro v0 v1 v2 v3 v4 v5 v6 v7 v8 v9 v10 v11 v12 v13 v14 v15 v16 v17 v18 v19 v20 v21 v22 v23 v24 v25 v26 v27 v28 v29 v30 v31 v32 v33 v34 v35 v36 v37 v38 v39 v40 v41 hg hd K hK
          have d5 : Ls W v5 [(jabx, jabp), (c, r)] := hd 5 v5 (by kernel_rfl) rfl
          clear hd
          rw [if_pos (by kernel_rfl)]
          simp only [puts, Act.put, List.setIfInBounds_toArray, List.set_cons_zero, List.set_cons_succ] at hK ⊢
          go_simp
          refine (JN2.out _ _ d5).mono ?_
          rintro e w' ⟨rfl, hk⟩
          exact hK _ _ hk rfl (hg.call hk)
        refine Each.cons (fun vs W hl => ?_) ?_
        · apply with42 hl
          clear hl vs
          intro v0 v1 v2 v3 v4 v5 v6 v7 v8 v9 v10 v11 v12 v13 v14 v15 v16 v17 v18 v19 v20 v21 v22 v23 v24 v25 v26 v27 v28 v29 v30 v31 v32 v33 v34 v35 v36 v37 v38 v39 v40 v41 hg hd K hK
          clear hd
          rw [if_pos (by kernel_rfl)]
          simp only [puts, Act.put, List.setIfInBounds_toArray, List.set_cons_zero, List.set_cons_succ] at hK ⊢
          have c0 := hg.a.c0
          have c1 := hg.a.c1
          go_simp
          exact hK _ _ (Below.refl _ _) rfl hg
        refine Each.cons (fun vs W hl => ?_) ?_
        · apply with42 hl
          clear hl vs
          intro v0 v1 v2 v3 v4 v5 v6 v7 v8 v9 v10 v11 v12 v13 v14 v15 v16 v17 v18 v19 v20 v21 v22 v23 v24 v25 v26 v27 v28 v29 v30 v31 v32 v33 v34 v35 v36 v37 v38 v39 v40 v41 hg hd K hK
          clear hd
          rw [if_pos (by kernel_rfl)]
          simp only [puts, Act.put, List.setIfInBounds_toArray, List.set_cons_zero, List.set_cons_succ] at hK ⊢
          have c0 := hg.b.c0
          have c1 := hg.b.c1
          go_simp
          exact hK _ _ (Below.refl _ _) rfl hg
        refine Each.cons (fun vs W hl => ?_) ?_
        · apply with42 hl
          clear hl vs
          intro v0 v1 v2 v3 v4 v5 v6 v7 v8 v9 v10 v11 v12 v13 v14 v15 v16 v17 v18 v19 v20 v21 v22 v23 v24 v25 v26 v27 v28 v29 v30 v31 v32 v33 v34 v35 v36 v37 v38 v39 v40 v41 hg hd K hK
          clear hd
          rw [if_pos (by kernel_rfl)]
          simp only [puts, Act.put, List.setIfInBounds_toArray, List.set_cons_zero, List.set_cons_succ] at hK ⊢
          have c0 := hg.c.c0
          have c1 := hg.c.c1
          go_simp
          exact hK _ _ (Below.refl _ _) rfl hg
        refine Each.cons (fun vs W hl => ?_) ?_
        · apply with42 hl
          clear hl vs
          intro v0 v1 v2 v3 v4 v5 v6 v7 v8 v9 v10 v11 v12 v13 v14 v15 v16 v17 v18 v19 v20 v21 v22 v23 v24 v25 v26 v27 v28 v29 v30 v31 v32 v33 v34 v35 v36 v37 v38 v39 v40 v41 hg hd K hK
          have d7 : v7 = Value.agg #[Value.int IntKind.i64 a, Value.int IntKind.u32 p] := hd 7 v7 (by kernel_rfl) rfl
          subst d7
          have d8 : v8 = Value.agg #[Value.int IntKind.i64 b, Value.int IntKind.u32 q] := hd 8 v8 (by kernel_rfl) rfl
          subst d8
          have d9 : v9 = Value.agg #[Value.int IntKind.i64 c, Value.int IntKind.u32 r] := hd 9 v9 (by kernel_rfl) rfl
          subst d9
          clear hd
          rw [if_pos (by kernel_rfl)]
          simp only [puts, Act.put, List.setIfInBounds_toArray, List.set_cons_zero, List.set_cons_succ] at hK ⊢
          go_simp
          exact hK _ _ (below1 _ _) (Ls.three _ _ _ _ _ _ _) (hg.alloc _)
        refine Each.cons (fun vs W hl => ?_) ?_
        · apply with42 hl
          clear hl vs
          intro v0 v1 v2 v3 v4 v5 v6 v7 v8 v9 v10 v11 v12 v13 v14 v15 v16 v17 v18 v19 v20 v21 v22 v23 v24 v25 v26 v27 v28 v29 v30 v31 v32 v33 v34 v35 v36 v37 v38 v39 v40 v41 hg hd K hK
          have d10 : Ls W v10 [(a, p), (b, q), (c, r)] := hd 10 v10 (by kernel_rfl) rfl
          clear hd
          rw [if_pos (by kernel_rfl)]
          simp only [puts, Act.put, List.setIfInBounds_toArray, List.set_cons_zero, List.set_cons_succ] at hK ⊢
          go_simp
          refine (JN3.out _ _ d10).mono ?_
          rintro e w' ⟨rfl, hk⟩
          exact hK _ _ hk rfl (hg.call hk)
        refine Each.cons (fun vs W hl => ?_) ?_
        · apply with42 hl
          clear hl vs
          intro v0 v1 v2 v3 v4 v5 v6 v7 v8 v9 v10 v11 v12 v13 v14 v15 v16 v17 v18 v19 v20 v21 v22 v23 v24 v25 v26 v27 v28 v29 v30 v31 v32 v33 v34 v35 v36 v37 v38 v39 v40 v41 hg hd K hK
          have d6 : v6 = Value.agg #[Value.int IntKind.i64 jabcx, Value.int IntKind.u32 jabcp] := hd 6 v6 (by kernel_rfl) rfl
          subst d6
          have d11 : v11 = Value.agg #[Value.int IntKind.i64 jabcx, Value.int IntKind.u32 jabcp] := hd 11 v11 (by kernel_rfl) rfl
          subst d11
          clear hd
          rw [if_pos (by kernel_rfl)]
          simp only [puts, Act.put, List.setIfInBounds_toArray, List.set_cons_zero, List.set_cons_succ] at hK ⊢
          have e24 := eq24r
          go_simp
          exact hK _ _ (Below.refl _ _) rfl hg
        refine Each.cons (fun vs W hl => ?_) ?_
        · apply with42 hl
          clear hl vs
          intro v0 v1 v2 v3 v4 v5 v6 v7 v8 v9 v10 v11 v12 v13 v14 v15 v16 v17 v18 v19 v20 v21 v22 v23 v24 v25 v26 v27 v28 v29 v30 v31 v32 v33 v34 v35 v36 v37 v38 v39 v40 v41 hg hd K hK
          have d12 : v12 = Value.bool true := hd 12 v12 (by kernel_rfl) rfl
          subst d12
          clear hd
          rw [if_pos (by kernel_rfl)]
          simp only [puts, Act.put, List.setIfInBounds_toArray, List.set_cons_zero, List.set_cons_succ] at hK ⊢
          go_simp
          exact hK _ _ (Below.refl _ _) rfl hg
        refine Each.cons (fun vs W hl => ?_) ?_
        · apply with42 hl
          clear hl vs
          intro v0 v1 v2 v3 v4 v5 v6 v7 v8 v9 v10 v11 v12 v13 v14 v15 v16 v17 v18 v19 v20 v21 v22 v23 v24 v25 v26 v27 v28 v29 v30 v31 v32 v33 v34 v35 v36 v37 v38 v39 v40 v41 hg hd K hK
          have d13 : v13 = Value.bool true := hd 13 v13 (by kernel_rfl) rfl
          subst d13
          clear hd
          rw [if_pos (by kernel_rfl)]
          simp only [puts, Act.put, List.setIfInBounds_toArray, List.set_cons_zero, List.set_cons_succ] at hK ⊢
          have c0 := hg.c.c0
          have c1 := hg.c.c1
          go_simp
          exact hK _ _ (Below.refl _ _) rfl hg
        refine Each.cons (fun vs W hl => ?_) ?_
        · apply with42 hl
          clear hl vs
          intro v0 v1 v2 v3 v4 v5 v6 v7 v8 v9 v10 v11 v12 v13 v14 v15 v16 v17 v18 v19 v20 v21 v22 v23 v24 v25 v26 v27 v28 v29 v30 v31 v32 v33 v34 v35 v36 v37 v38 v39 v40 v41 hg hd K hK
          have d13 : v13 = Value.bool true := hd 13 v13 (by kernel_rfl) rfl
          subst d13
          clear hd
          rw [if_pos (by kernel_rfl)]
          simp only [puts, Act.put, List.setIfInBounds_toArray, List.set_cons_zero, List.set_cons_succ] at hK ⊢
          have c0 := hg.b.c0
          have c1 := hg.b.c1
          go_simp
          exact hK _ _ (Below.refl _ _) rfl hg
        refine Each.cons (fun vs W hl => ?_) ?_
        · apply with42 hl
          clear hl vs
          intro v0 v1 v2 v3 v4 v5 v6 v7 v8 v9 v10 v11 v12 v13 v14 v15 v16 v17 v18 v19 v20 v21 v22 v23 v24 v25 v26 v27 v28 v29 v30 v31 v32 v33 v34 v35 v36 v37 v38 v39 v40 v41 hg hd K hK
          have d13 : v13 = Value.bool true := hd 13 v13 (by kernel_rfl) rfl
          subst d13
          clear hd
          rw [if_pos (by kernel_rfl)]
          simp only [puts, Act.put, List.setIfInBounds_toArray, List.set_cons_zero, List.set_cons_succ] at hK ⊢
          have c0 := hg.a.c0
          have c1 := hg.a.c1
          go_simp
          exact hK _ _ (Below.refl _ _) rfl hg
        refine Each.cons (fun vs W hl => ?_) ?_
        · apply with42 hl
          clear hl vs
          intro v0 v1 v2 v3 v4 v5 v6 v7 v8 v9 v10 v11 v12 v13 v14 v15 v16 v17 v18 v19 v20 v21 v22 v23 v24 v25 v26 v27 v28 v29 v30 v31 v32 v33 v34 v35 v36 v37 v38 v39 v40 v41 hg hd K hK
          have d13 : v13 = Value.bool true := hd 13 v13 (by kernel_rfl) rfl
          subst d13
          have d14 : v14 = Value.agg #[Value.int IntKind.i64 c, Value.int IntKind.u32 r] := hd 14 v14 (by kernel_rfl) rfl
          subst d14
          have d15 : v15 = Value.agg #[Value.int IntKind.i64 b, Value.int IntKind.u32 q] := hd 15 v15 (by kernel_rfl) rfl
          subst d15
          have d16 : v16 = Value.agg #[Value.int IntKind.i64 a, Value.int IntKind.u32 p] := hd 16 v16 (by kernel_rfl) rfl
          subst d16
          clear hd
          rw [if_pos (by kernel_rfl)]
          simp only [puts, Act.put, List.setIfInBounds_toArray, List.set_cons_zero, List.set_cons_succ] at hK ⊢
          go_simp
          exact hK _ _ (below1 _ _) (Ls.three _ _ _ _ _ _ _) (hg.alloc _)
        refine Each.cons (fun vs W hl => ?_) ?_
        · apply with42 hl
          clear hl vs
          intro v0 v1 v2 v3 v4 v5 v6 v7 v8 v9 v10 v11 v12 v13 v14 v15 v16 v17 v18 v19 v20 v21 v22 v23 v24 v25 v26 v27 v28 v29 v30 v31 v32 v33 v34 v35 v36 v37 v38 v39 v40 v41 hg hd K hK
          have d13 : v13 = Value.bool true := hd 13 v13 (by kernel_rfl) rfl
          subst d13
          have d17 : Ls W v17 [(c, r), (b, q), (a, p)] := hd 17 v17 (by kernel_rfl) rfl
          clear hd
          rw [if_pos (by kernel_rfl)]
          simp only [puts, Act.put, List.setIfInBounds_toArray, List.set_cons_zero, List.set_cons_succ] at hK ⊢
          go_simp
          refine (JN4.out _ _ d17).mono ?_
          rintro e w' ⟨rfl, hk⟩
          exact hK _ _ hk rfl (hg.call hk)
        refine Each.cons (fun vs W hl => ?_) ?_
        · apply with42 hl
          clear hl vs
          intro v0 v1 v2 v3 v4 v5 v6 v7 v8 v9 v10 v11 v12 v13 v14 v15 v16 v17 v18 v19 v20 v21 v22 v23 v24 v25 v26 v27 v28 v29 v30 v31 v32 v33 v34 v35 v36 v37 v38 v39 v40 v41 hg hd K hK
          have d13 : v13 = Value.bool true := hd 13 v13 (by kernel_rfl) rfl
          subst d13
          clear hd
          rw [if_pos (by kernel_rfl)]
          simp only [puts, Act.put, List.setIfInBounds_toArray, List.set_cons_zero, List.set_cons_succ] at hK ⊢
          have c0 := hg.a.c0
          have c1 := hg.a.c1
          go_simp
          exact hK _ _ (Below.refl _ _) rfl hg
        refine Each.cons (fun vs W hl => ?_) ?_
        · apply with42 hl
          clear hl vs
          intro v0 v1 v2 v3 v4 v5 v6 v7 v8 v9 v10 v11 v12 v13 v14 v15 v16 v17 v18 v19 v20 v21 v22 v23 v24 v25 v26 v27 v28 v29 v30 v31 v32 v33 v34 v35 v36 v37 v38 v39 v40 v41 hg hd K hK
          have d13 : v13 = Value.bool true := hd 13 v13 (by kernel_rfl) rfl
          subst d13
          clear hd
          rw [if_pos (by kernel_rfl)]
          simp only [puts, Act.put, List.setIfInBounds_toArray, List.set_cons_zero, List.set_cons_succ] at hK ⊢
          have c0 := hg.b.c0
          have c1 := hg.b.c1
          go_simp
          exact hK _ _ (Below.refl _ _) rfl hg
        refine Each.cons (fun vs W hl => ?_) ?_
        · apply with42 hl
          clear hl vs
          intro v0 v1 v2 v3 v4 v5 v6 v7 v8 v9 v10 v11 v12 v13 v14 v15 v16 v17 v18 v19 v20 v21 v22 v23 v24 v25 v26 v27 v28 v29 v30 v31 v32 v33 v34 v35 v36 v37 v38 v39 v40 v41 hg hd K hK
          have d13 : v13 = Value.bool true := hd 13 v13 (by kernel_rfl) rfl
          subst d13
          clear hd
          rw [if_pos (by kernel_rfl)]
          simp only [puts, Act.put, List.setIfInBounds_toArray, List.set_cons_zero, List.set_cons_succ] at hK ⊢
          have c0 := hg.c.c0
          have c1 := hg.c.c1
          go_simp
          exact hK _ _ (Below.refl _ _) rfl hg
        refine Each.cons (fun vs W hl => ?_) ?_
        · apply with42 hl
          clear hl vs
          intro v0 v1 v2 v3 v4 v5 v6 v7 v8 v9 v10 v11 v12 v13 v14 v15 v16 v17 v18 v19 v20 v21 v22 v23 v24 v25 v26 v27 v28 v29 v30 v31 v32 v33 v34 v35 v36 v37 v38 v39 v40 v41 hg hd K hK
          have d13 : v13 = Value.bool true := hd 13 v13 (by kernel_rfl) rfl
          subst d13
          have d20 : v20 = Value.agg #[Value.int IntKind.i64 b, Value.int IntKind.u32 q] := hd 20 v20 (by kernel_rfl) rfl
          subst d20
          have d21 : v21 = Value.agg #[Value.int IntKind.i64 c, Value.int IntKind.u32 r] := hd 21 v21 (by kernel_rfl) rfl
          subst d21
          clear hd
          rw [if_pos (by kernel_rfl)]
          simp only [puts, Act.put, List.setIfInBounds_toArray, List.set_cons_zero, List.set_cons_succ] at hK ⊢
          go_simp
          exact hK _ _ (below1 _ _) (Ls.two _ _ _ _ _) (hg.alloc _)
        refine Each.cons (fun vs W hl => ?_) ?_
        · apply with42 hl
          clear hl vs
          intro v0 v1 v2 v3 v4 v5 v6 v7 v8 v9 v10 v11 v12 v13 v14 v15 v16 v17 v18 v19 v20 v21 v22 v23 v24 v25 v26 v27 v28 v29 v30 v31 v32 v33 v34 v35 v36 v37 v38 v39 v40 v41 hg hd K hK
          have d13 : v13 = Value.bool true := hd 13 v13 (by kernel_rfl) rfl
          subst d13
          have d22 : Ls W v22 [(b, q), (c, r)] := hd 22 v22 (by kernel_rfl) rfl
          clear hd
          rw [if_pos (by kernel_rfl)]
          simp only [puts, Act.put, List.setIfInBounds_toArray, List.set_cons_zero, List.set_cons_succ] at hK ⊢
          go_simp
          refine (JN5.out _ _ d22).mono ?_
          rintro e w' ⟨rfl, hk⟩
          exact hK _ _ hk rfl (hg.call hk)
        refine Each.cons (fun vs W hl => ?_) ?_
        · apply with42 hl
          clear hl vs
          intro v0 v1 v2 v3 v4 v5 v6 v7 v8 v9 v10 v11 v12 v13 v14 v15 v16 v17 v18 v19 v20 v21 v22 v23 v24 v25 v26 v27 v28 v29 v30 v31 v32 v33 v34 v35 v36 v37 v38 v39 v40 v41 hg hd K hK
          have d13 : v13 = Value.bool true := hd 13 v13 (by kernel_rfl) rfl
          subst d13
          have d19 : v19 = Value.agg #[Value.int IntKind.i64 a, Value.int IntKind.u32 p] := hd 19 v19 (by kernel_rfl) rfl
          subst d19
          have d23 : v23 = Value.agg #[Value.int IntKind.i64 jbcx, Value.int IntKind.u32 jbcp] := hd 23 v23 (by kernel_rfl) rfl
          subst d23
          clear hd
          rw [if_pos (by kernel_rfl)]
          simp only [puts, Act.put, List.setIfInBounds_toArray, List.set_cons_zero, List.set_cons_succ] at hK ⊢
          go_simp
          exact hK _ _ (below1 _ _) (Ls.two _ _ _ _ _) (hg.alloc _)
        refine Each.cons (fun vs W hl => ?_) ?_
        · apply with42 hl
          clear hl vs
          intro v0 v1 v2 v3 v4 v5 v6 v7 v8 v9 v10 v11 v12 v13 v14 v15 v16 v17 v18 v19 v20 v21 v22 v23 v24 v25 v26 v27 v28 v29 v30 v31 v32 v33 v34 v35 v36 v37 v38 v39 v40 v41 hg hd K hK
          have d13 : v13 = Value.bool true := hd 13 v13 (by kernel_rfl) rfl
          subst d13
          have d24 : Ls W v24 [(a, p), (jbcx, jbcp)] := hd 24 v24 (by kernel_rfl) rfl
          clear hd
          rw [if_pos (by kernel_rfl)]
          simp only [puts, Act.put, List.setIfInBounds_toArray, List.set_cons_zero, List.set_cons_succ] at hK ⊢
          go_simp
          refine (JN6.out _ _ d24).mono ?_
          rintro e w' ⟨rfl, hk⟩
          exact hK _ _ hk rfl (hg.call hk)
        refine Each.cons (fun vs W hl => ?_) ?_
        · apply with42 hl
          clear hl vs
          intro v0 v1 v2 v3 v4 v5 v6 v7 v8 v9 v10 v11 v12 v13 v14 v15 v16 v17 v18 v19 v20 v21 v22 v23 v24 v25 v26 v27 v28 v29 v30 v31 v32 v33 v34 v35 v36 v37 v38 v39 v40 v41 hg hd K hK
          have d13 : v13 = Value.bool true := hd 13 v13 (by kernel_rfl) rfl
          subst d13
          have d18 : v18 = Value.agg #[Value.int IntKind.i64 jabcx, Value.int IntKind.u32 jabcp] := hd 18 v18 (by kernel_rfl) rfl
          subst d18
          have d25 : v25 = Value.agg #[Value.int IntKind.i64 jabcx, Value.int IntKind.u32 jabcp] := hd 25 v25 (by kernel_rfl) rfl
          subst d25
          clear hd
          rw [if_pos (by kernel_rfl)]
          simp only [puts, Act.put, List.setIfInBounds_toArray, List.set_cons_zero, List.set_cons_succ] at hK ⊢
          have e24 := eq24r
          go_simp
          exact hK _ _ (Below.refl _ _) rfl hg
        refine Each.cons (fun vs W hl => ?_) ?_
        · apply with42 hl
          clear hl vs
          intro v0 v1 v2 v3 v4 v5 v6 v7 v8 v9 v10 v11 v12 v13 v14 v15 v16 v17 v18 v19 v20 v21 v22 v23 v24 v25 v26 v27 v28 v29 v30 v31 v32 v33 v34 v35 v36 v37 v38 v39 v40 v41 hg hd K hK
          have d13 : v13 = Value.bool true := hd 13 v13 (by kernel_rfl) rfl
          subst d13
          have d26 : v26 = Value.bool true := hd 26 v26 (by kernel_rfl) rfl
          subst d26
          clear hd
          rw [if_pos (by kernel_rfl)]
          simp only [puts, Act.put, List.setIfInBounds_toArray, List.set_cons_zero, List.set_cons_succ] at hK ⊢
          go_simp
          exact hK _ _ (Below.refl _ _) rfl hg
        refine Each.cons (fun vs W hl => ?_) ?_
        · apply with42 hl
          clear hl vs
          intro v0 v1 v2 v3 v4 v5 v6 v7 v8 v9 v10 v11 v12 v13 v14 v15 v16 v17 v18 v19 v20 v21 v22 v23 v24 v25 v26 v27 v28 v29 v30 v31 v32 v33 v34 v35 v36 v37 v38 v39 v40 v41 hg hd K hK
          have d27 : v27 = Value.bool true := hd 27 v27 (by kernel_rfl) rfl
          subst d27
          clear hd
          rw [if_pos (by kernel_rfl)]
          simp only [puts, Act.put, List.setIfInBounds_toArray, List.set_cons_zero, List.set_cons_succ] at hK ⊢
          go_simp
          exact hK _ _ (Below.refl _ _) rfl hg
        refine Each.cons (fun vs W hl => ?_) ?_
        · apply with42 hl
          clear hl vs
          intro v0 v1 v2 v3 v4 v5 v6 v7 v8 v9 v10 v11 v12 v13 v14 v15 v16 v17 v18 v19 v20 v21 v22 v23 v24 v25 v26 v27 v28 v29 v30 v31 v32 v33 v34 v35 v36 v37 v38 v39 v40 v41 hg hd K hK
          have d28 : v28 = Value.bool true := hd 28 v28 (by kernel_rfl) rfl
          subst d28
          clear hd
          rw [if_pos (by kernel_rfl)]
          simp only [puts, Act.put, List.setIfInBounds_toArray, List.set_cons_zero, List.set_cons_succ] at hK ⊢
          have c0 := hg.a.c0
          have c1 := hg.a.c1
          go_simp
          exact hK _ _ (Below.refl _ _) rfl hg
        refine Each.cons (fun vs W hl => ?_) ?_
        · apply with42 hl
          clear hl vs
          intro v0 v1 v2 v3 v4 v5 v6 v7 v8 v9 v10 v11 v12 v13 v14 v15 v16 v17 v18 v19 v20 v21 v22 v23 v24 v25 v26 v27 v28 v29 v30 v31 v32 v33 v34 v35 v36 v37 v38 v39 v40 v41 hg hd K hK
          have d28 : v28 = Value.bool true := hd 28 v28 (by kernel_rfl) rfl
          subst d28
          clear hd
          rw [if_pos (by kernel_rfl)]
          simp only [puts, Act.put, List.setIfInBounds_toArray, List.set_cons_zero, List.set_cons_succ] at hK ⊢
          have c0 := hg.b.c0
          have c1 := hg.b.c1
          go_simp
          exact hK _ _ (Below.refl _ _) rfl hg
        refine Each.cons (fun vs W hl => ?_) ?_
        · apply with42 hl
          clear hl vs
          intro v0 v1 v2 v3 v4 v5 v6 v7 v8 v9 v10 v11 v12 v13 v14 v15 v16 v17 v18 v19 v20 v21 v22 v23 v24 v25 v26 v27 v28 v29 v30 v31 v32 v33 v34 v35 v36 v37 v38 v39 v40 v41 hg hd K hK
          have d28 : v28 = Value.bool true := hd 28 v28 (by kernel_rfl) rfl
          subst d28
          have d29 : v29 = Value.agg #[Value.int IntKind.i64 a, Value.int IntKind.u32 p] := hd 29 v29 (by kernel_rfl) rfl
          subst d29
          have d30 : v30 = Value.agg #[Value.int IntKind.i64 b, Value.int IntKind.u32 q] := hd 30 v30 (by kernel_rfl) rfl
          subst d30
          clear hd
          rw [if_pos (by kernel_rfl)]
          simp only [puts, Act.put, List.setIfInBounds_toArray, List.set_cons_zero, List.set_cons_succ] at hK ⊢
          go_simp
          refine (MT0.out _).mono ?_
          rintro e w' ⟨rfl, hk⟩
          exact hK _ _ hk rfl (hg.call hk)
        refine Each.cons (fun vs W hl => ?_) ?_
        · apply with42 hl
          clear hl vs
          intro v0 v1 v2 v3 v4 v5 v6 v7 v8 v9 v10 v11 v12 v13 v14 v15 v16 v17 v18 v19 v20 v21 v22 v23 v24 v25 v26 v27 v28 v29 v30 v31 v32 v33 v34 v35 v36 v37 v38 v39 v40 v41 hg hd K hK
          have d28 : v28 = Value.bool true := hd 28 v28 (by kernel_rfl) rfl
          subst d28
          clear hd
          rw [if_pos (by kernel_rfl)]
          simp only [puts, Act.put, List.setIfInBounds_toArray, List.set_cons_zero, List.set_cons_succ] at hK ⊢
          have c0 := hg.c.c0
          have c1 := hg.c.c1
          go_simp
          exact hK _ _ (Below.refl _ _) rfl hg
        refine Each.cons (fun vs W hl => ?_) ?_
        · apply with42 hl
          clear hl vs
          intro v0 v1 v2 v3 v4 v5 v6 v7 v8 v9 v10 v11 v12 v13 v14 v15 v16 v17 v18 v19 v20 v21 v22 v23 v24 v25 v26 v27 v28 v29 v30 v31 v32 v33 v34 v35 v36 v37 v38 v39 v40 v41 hg hd K hK
          have d28 : v28 = Value.bool true := hd 28 v28 (by kernel_rfl) rfl
          subst d28
          have d31 : v31 = Value.agg #[Value.int IntKind.i64 mabx, Value.int IntKind.u32 mabp] := hd 31 v31 (by kernel_rfl) rfl
          subst d31
          have d32 : v32 = Value.agg #[Value.int IntKind.i64 c, Value.int IntKind.u32 r] := hd 32 v32 (by kernel_rfl) rfl
          subst d32
          clear hd
          rw [if_pos (by kernel_rfl)]
          simp only [puts, Act.put, List.setIfInBounds_toArray, List.set_cons_zero, List.set_cons_succ] at hK ⊢
          go_simp
          refine (MT2.out _).mono ?_
          rintro e w' ⟨rfl, hk⟩
          exact hK _ _ hk rfl (hg.call hk)
        refine Each.cons (fun vs W hl => ?_) ?_
        · apply with42 hl
          clear hl vs
          intro v0 v1 v2 v3 v4 v5 v6 v7 v8 v9 v10 v11 v12 v13 v14 v15 v16 v17 v18 v19 v20 v21 v22 v23 v24 v25 v26 v27 v28 v29 v30 v31 v32 v33 v34 v35 v36 v37 v38 v39 v40 v41 hg hd K hK
          have d28 : v28 = Value.bool true := hd 28 v28 (by kernel_rfl) rfl
          subst d28
          clear hd
          rw [if_pos (by kernel_rfl)]
          simp only [puts, Act.put, List.setIfInBounds_toArray, List.set_cons_zero, List.set_cons_succ] at hK ⊢
          have c0 := hg.a.c0
          have c1 := hg.a.c1
          go_simp
          exact hK _ _ (Below.refl _ _) rfl hg
        refine Each.cons (fun vs W hl => ?_) ?_
        · apply with42 hl
          clear hl vs
          intro v0 v1 v2 v3 v4 v5 v6 v7 v8 v9 v10 v11 v12 v13 v14 v15 v16 v17 v18 v19 v20 v21 v22 v23 v24 v25 v26 v27 v28 v29 v30 v31 v32 v33 v34 v35 v36 v37 v38 v39 v40 v41 hg hd K hK
          have d28 : v28 = Value.bool true := hd 28 v28 (by kernel_rfl) rfl
          subst d28
          clear hd
          rw [if_pos (by kernel_rfl)]
          simp only [puts, Act.put, List.setIfInBounds_toArray, List.set_cons_zero, List.set_cons_succ] at hK ⊢
          have c0 := hg.b.c0
          have c1 := hg.b.c1
          go_simp
          exact hK _ _ (Below.refl _ _) rfl hg
        refine Each.cons (fun vs W hl => ?_) ?_
        · apply with42 hl
          clear hl vs
          intro v0 v1 v2 v3 v4 v5 v6 v7 v8 v9 v10 v11 v12 v13 v14 v15 v16 v17 v18 v19 v20 v21 v22 v23 v24 v25 v26 v27 v28 v29 v30 v31 v32 v33 v34 v35 v36 v37 v38 v39 v40 v41 hg hd K hK
          have d28 : v28 = Value.bool true := hd 28 v28 (by kernel_rfl) rfl
          subst d28
          clear hd
          rw [if_pos (by kernel_rfl)]
          simp only [puts, Act.put, List.setIfInBounds_toArray, List.set_cons_zero, List.set_cons_succ] at hK ⊢
          have c0 := hg.c.c0
          have c1 := hg.c.c1
          go_simp
          exact hK _ _ (Below.refl _ _) rfl hg
        refine Each.cons (fun vs W hl => ?_) ?_
        · apply with42 hl
          clear hl vs
          intro v0 v1 v2 v3 v4 v5 v6 v7 v8 v9 v10 v11 v12 v13 v14 v15 v16 v17 v18 v19 v20 v21 v22 v23 v24 v25 v26 v27 v28 v29 v30 v31 v32 v33 v34 v35 v36 v37 v38 v39 v40 v41 hg hd K hK
          have d28 : v28 = Value.bool true := hd 28 v28 (by kernel_rfl) rfl
          subst d28
          have d35 : v35 = Value.agg #[Value.int IntKind.i64 b, Value.int IntKind.u32 q] := hd 35 v35 (by kernel_rfl) rfl
          subst d35
          have d36 : v36 = Value.agg #[Value.int IntKind.i64 c, Value.int IntKind.u32 r] := hd 36 v36 (by kernel_rfl) rfl
          subst d36
          clear hd
          rw [if_pos (by kernel_rfl)]
          simp only [puts, Act.put, List.setIfInBounds_toArray, List.set_cons_zero, List.set_cons_succ] at hK ⊢
          go_simp
          refine (MT3.out _).mono ?_
          rintro e w' ⟨rfl, hk⟩
          exact hK _ _ hk rfl (hg.call hk)
        refine Each.cons (fun vs W hl => ?_) ?_
        · apply with42 hl
          clear hl vs
          intro v0 v1 v2 v3 v4 v5 v6 v7 v8 v9 v10 v11 v12 v13 v14 v15 v16 v17 v18 v19 v20 v21 v22 v23 v24 v25 v26 v27 v28 v29 v30 v31 v32 v33 v34 v35 v36 v37 v38 v39 v40 v41 hg hd K hK
          have d28 : v28 = Value.bool true := hd 28 v28 (by kernel_rfl) rfl
          subst d28
          have d34 : v34 = Value.agg #[Value.int IntKind.i64 a, Value.int IntKind.u32 p] := hd 34 v34 (by kernel_rfl) rfl
          subst d34
          have d37 : v37 = Value.agg #[Value.int IntKind.i64 mbcx, Value.int IntKind.u32 mbcp] := hd 37 v37 (by kernel_rfl) rfl
          subst d37
          clear hd
          rw [if_pos (by kernel_rfl)]
          simp only [puts, Act.put, List.setIfInBounds_toArray, List.set_cons_zero, List.set_cons_succ] at hK ⊢
          go_simp
          refine (MT4.out _).mono ?_
          rintro e w' ⟨rfl, hk⟩
          exact hK _ _ hk rfl (hg.call hk)
        refine Each.cons (fun vs W hl => ?_) ?_
        · apply with42 hl
          clear hl vs
          intro v0 v1 v2 v3 v4 v5 v6 v7 v8 v9 v10 v11 v12 v13 v14 v15 v16 v17 v18 v19 v20 v21 v22 v23 v24 v25 v26 v27 v28 v29 v30 v31 v32 v33 v34 v35 v36 v37 v38 v39 v40 v41 hg hd K hK
          have d28 : v28 = Value.bool true := hd 28 v28 (by kernel_rfl) rfl
          subst d28
          have d33 : v33 = Value.agg #[Value.int IntKind.i64 mabcx, Value.int IntKind.u32 mabcp] := hd 33 v33 (by kernel_rfl) rfl
          subst d33
          have d38 : v38 = Value.agg #[Value.int IntKind.i64 mabcx, Value.int IntKind.u32 mabcp] := hd 38 v38 (by kernel_rfl) rfl
          subst d38
          clear hd
          rw [if_pos (by kernel_rfl)]
          simp only [puts, Act.put, List.setIfInBounds_toArray, List.set_cons_zero, List.set_cons_succ] at hK ⊢
          have e24 := eq24r
          go_simp
          exact hK _ _ (Below.refl _ _) rfl hg
        refine Each.cons (fun vs W hl => ?_) ?_
        · apply with42 hl
          clear hl vs
          intro v0 v1 v2 v3 v4 v5 v6 v7 v8 v9 v10 v11 v12 v13 v14 v15 v16 v17 v18 v19 v20 v21 v22 v23 v24 v25 v26 v27 v28 v29 v30 v31 v32 v33 v34 v35 v36 v37 v38 v39 v40 v41 hg hd K hK
          have d28 : v28 = Value.bool true := hd 28 v28 (by kernel_rfl) rfl
          subst d28
          have d39 : v39 = Value.bool true := hd 39 v39 (by kernel_rfl) rfl
          subst d39
          clear hd
          rw [if_pos (by kernel_rfl)]
          simp only [puts, Act.put, List.setIfInBounds_toArray, List.set_cons_zero, List.set_cons_succ] at hK ⊢
          go_simp
          exact hK _ _ (Below.refl _ _) rfl hg
        refine Each.cons (fun vs W hl => ?_) ?_
        · apply with42 hl
          clear hl vs
          intro v0 v1 v2 v3 v4 v5 v6 v7 v8 v9 v10 v11 v12 v13 v14 v15 v16 v17 v18 v19 v20 v21 v22 v23 v24 v25 v26 v27 v28 v29 v30 v31 v32 v33 v34 v35 v36 v37 v38 v39 v40 v41 hg hd K hK
          have d40 : v40 = Value.bool true := hd 40 v40 (by kernel_rfl) rfl
          subst d40
          clear hd
          rw [if_pos (by kernel_rfl)]
          simp only [puts, Act.put, List.setIfInBounds_toArray, List.set_cons_zero, List.set_cons_succ] at hK ⊢
          go_simp
          exact hK _ _ (Below.refl _ _) rfl hg
        exact Each.nil
      · intro vs W hl
        apply with42 hl
        clear hl vs
        intro v0 v1 v2 v3 v4 v5 v6 v7 v8 v9 v10 v11 v12 v13 v14 v15 v16 v17 v18 v19 v20 v21 v22 v23 v24 v25 v26 v27 v28 v29 v30 v31 v32 v33 v34 v35 v36 v37 v38 v39 v40 v41 hg hall
        have d0 : v0 = Value.agg #[Value.int IntKind.i64 a, Value.int IntKind.u32 p] := hall 0 v0 rfl
        subst d0
        have d1 : v1 = Value.agg #[Value.int IntKind.i64 b, Value.int IntKind.u32 q] := hall 1 v1 rfl
        subst d1
        have d2 : Ls W v2 [(a, p), (b, q)] := hall 2 v2 rfl
        have d3 : v3 = Value.agg #[Value.int IntKind.i64 jabx, Value.int IntKind.u32 jabp] := hall 3 v3 rfl
        subst d3
        have d4 : v4 = Value.agg #[Value.int IntKind.i64 c, Value.int IntKind.u32 r] := hall 4 v4 rfl
        subst d4
        have d5 : Ls W v5 [(jabx, jabp), (c, r)] := hall 5 v5 rfl
        have d6 : v6 = Value.agg #[Value.int IntKind.i64 jabcx, Value.int IntKind.u32 jabcp] := hall 6 v6 rfl
        subst d6
        have d7 : v7 = Value.agg #[Value.int IntKind.i64 a, Value.int IntKind.u32 p] := hall 7 v7 rfl
        subst d7
        have d8 : v8 = Value.agg #[Value.int IntKind.i64 b, Value.int IntKind.u32 q] := hall 8 v8 rfl
        subst d8
        have d9 : v9 = Value.agg #[Value.int IntKind.i64 c, Value.int IntKind.u32 r] := hall 9 v9 rfl
        subst d9
        have d10 : Ls W v10 [(a, p), (b, q), (c, r)] := hall 10 v10 rfl
        have d11 : v11 = Value.agg #[Value.int IntKind.i64 jabcx, Value.int IntKind.u32 jabcp] := hall 11 v11 rfl
        subst d11
        have d12 : v12 = Value.bool true := hall 12 v12 rfl
        subst d12
        have d13 : v13 = Value.bool true := hall 13 v13 rfl
        subst d13
        have d14 : v14 = Value.agg #[Value.int IntKind.i64 c, Value.int IntKind.u32 r] := hall 14 v14 rfl
        subst d14
        have d15 : v15 = Value.agg #[Value.int IntKind.i64 b, Value.int IntKind.u32 q] := hall 15 v15 rfl
        subst d15
        have d16 : v16 = Value.agg #[Value.int IntKind.i64 a, Value.int IntKind.u32 p] := hall 16 v16 rfl
        subst d16
        have d17 : Ls W v17 [(c, r), (b, q), (a, p)] := hall 17 v17 rfl
        have d18 : v18 = Value.agg #[Value.int IntKind.i64 jabcx, Value.int IntKind.u32 jabcp] := hall 18 v18 rfl
        subst d18
        have d19 : v19 = Value.agg #[Value.int IntKind.i64 a, Value.int IntKind.u32 p] := hall 19 v19 rfl
        subst d19
        have d20 : v20 = Value.agg #[Value.int IntKind.i64 b, Value.int IntKind.u32 q] := hall 20 v20 rfl
        subst d20
        have d21 : v21 = Value.agg #[Value.int IntKind.i64 c, Value.int IntKind.u32 r] := hall 21 v21 rfl
        subst d21
        have d22 : Ls W v22 [(b, q), (c, r)] := hall 22 v22 rfl
        have d23 : v23 = Value.agg #[Value.int IntKind.i64 jbcx, Value.int IntKind.u32 jbcp] := hall 23 v23 rfl
        subst d23
        have d24 : Ls W v24 [(a, p), (jbcx, jbcp)] := hall 24 v24 rfl
        have d25 : v25 = Value.agg #[Value.int IntKind.i64 jabcx, Value.int IntKind.u32 jabcp] := hall 25 v25 rfl
        subst d25
        have d26 : v26 = Value.bool true := hall 26 v26 rfl
        subst d26
        have d27 : v27 = Value.bool true := hall 27 v27 rfl
        subst d27
        have d28 : v28 = Value.bool true := hall 28 v28 rfl
        subst d28
        have d29 : v29 = Value.agg #[Value.int IntKind.i64 a, Value.int IntKind.u32 p] := hall 29 v29 rfl
        subst d29
        have d30 : v30 = Value.agg #[Value.int IntKind.i64 b, Value.int IntKind.u32 q] := hall 30 v30 rfl
        subst d30
        have d31 : v31 = Value.agg #[Value.int IntKind.i64 mabx, Value.int IntKind.u32 mabp] := hall 31 v31 rfl
        subst d31
        have d32 : v32 = Value.agg #[Value.int IntKind.i64 c, Value.int IntKind.u32 r] := hall 32 v32 rfl
        subst d32
        have d33 : v33 = Value.agg #[Value.int IntKind.i64 mabcx, Value.int IntKind.u32 mabcp] := hall 33 v33 rfl
        subst d33
        have d34 : v34 = Value.agg #[Value.int IntKind.i64 a, Value.int IntKind.u32 p] := hall 34 v34 rfl
        subst d34
        have d35 : v35 = Value.agg #[Value.int IntKind.i64 b, Value.int IntKind.u32 q] := hall 35 v35 rfl
        subst d35
        have d36 : v36 = Value.agg #[Value.int IntKind.i64 c, Value.int IntKind.u32 r] := hall 36 v36 rfl
        subst d36
        have d37 : v37 = Value.agg #[Value.int IntKind.i64 mbcx, Value.int IntKind.u32 mbcp] := hall 37 v37 rfl
        subst d37
        have d38 : v38 = Value.agg #[Value.int IntKind.i64 mabcx, Value.int IntKind.u32 mabcp] := hall 38 v38 rfl
        subst d38
        have d39 : v39 = Value.bool true := hall 39 v39 rfl
        subst d39
        have d40 : v40 = Value.bool true := hall 40 v40 rfl
        subst d40
        have d41 : v41 = Value.bool true := hall 41 v41 rfl
        subst d41
        clear hall
        simp only [puts, Act.put, List.setIfInBounds_toArray, List.set_cons_zero, List.set_cons_succ, List.take_succ_cons, List.take_zero, List.drop_succ_cons, List.drop_zero]
        have A5 := hg
        clear hg A4
        clear d2 d5 d10 d17 d22 d24
        generalize W = w5 at *
        go_wp2_with fail
        refine wp_region_each 34 (fun W W' => Below W.heap.size W W') (fun i v W => match i with | 0 => v = Value.agg #[Value.int IntKind.i64 a, Value.int IntKind.u32 p] | 1 => v = Value.agg #[Value.int IntKind.i64 a, Value.int IntKind.u32 p] | 2 => v = Value.agg #[Value.int IntKind.i64 b, Value.int IntKind.u32 q] | 3 => v = Value.agg #[Value.int IntKind.i64 mabx, Value.int IntKind.u32 mabp] | 4 => Ls W v [(a, p), (mabx, mabp)] | 5 => v = Value.agg #[Value.int IntKind.i64 a, Value.int IntKind.u32 p] | 6 => v = Value.agg #[Value.int IntKind.i64 a, Value.int IntKind.u32 p] | 7 => v = Value.bool true | 8 => v = Value.bool true | 9 => v = Value.agg #[Value.int IntKind.i64 a, Value.int IntKind.u32 p] | 10 => v = Value.agg #[Value.int IntKind.i64 a, Value.int IntKind.u32 p] | 11 => v = Value.agg #[Value.int IntKind.i64 b, Value.int IntKind.u32 q] | 12 => Ls W v [(a, p), (b, q)] | 13 => v = Value.agg #[Value.int IntKind.i64 jabx, Value.int IntKind.u32 jabp] | 14 => v = Value.agg #[Value.int IntKind.i64 a, Value.int IntKind.u32 p] | 15 => v = Value.agg #[Value.int IntKind.i64 a, Value.int IntKind.u32 p] | 16 => v = Value.bool true | 17 => v = Value.bool true | 18 => v = Value.bool true | 19 => v = Value.agg #[Value.int IntKind.i64 a, Value.int IntKind.u32 p] | 20 => v = Value.agg #[Value.int IntKind.i64 a, Value.int IntKind.u32 p] | 21 => Ls W v [(a, p), (a, p)] | 22 => v = Value.agg #[Value.int IntKind.i64 a, Value.int IntKind.u32 p] | 23 => v = Value.agg #[Value.int IntKind.i64 a, Value.int IntKind.u32 p] | 24 => v = Value.bool true | 25 => v = Value.bool true | 26 => v = Value.bool true | 27 => v = Value.agg #[Value.int IntKind.i64 a, Value.int IntKind.u32 p] | 28 => v = Value.agg #[Value.int IntKind.i64 a, Value.int IntKind.u32 p] | 29 => v = Value.agg #[Value.int IntKind.i64 a, Value.int IntKind.u32 p] | 30 => v = Value.agg #[Value.int IntKind.i64 a, Value.int IntKind.u32 p] | 31 => v = Value.bool true | 32 => v = Value.bool true | 33 => v = Value.bool true | _ => True) (fun _ W => L3 w N a p b q c r W) (by kernel_rfl) (by kernel_rfl) (fun j v W W' hE h => by
            match j with
            | 0 => exact h
            | 1 => exact h
            | 2 => exact h
            | 3 => exact h
            | 4 => exact Ls.keep h hE
            | 5 => exact h
            | 6 => exact h
            | 7 => exact h
            | 8 => exact h
            | 9 => exact h
            | 10 => exact h
            | 11 => exact h
            | 12 => exact Ls.keep h hE
            | 13 => exact h
            | 14 => exact h
            | 15 => exact h
            | 16 => exact h
            | 17 => exact h
            | 18 => exact h
            | 19 => exact h
            | 20 => exact h
            | 21 => exact Ls.keep h hE
            | 22 => exact h
            | 23 => exact h
            | 24 => exact h
            | 25 => exact h
            | 26 => exact h
            | 27 => exact h
            | 28 => exact h
            | 29 => exact h
            | 30 => exact h
            | 31 => exact h
            | 32 => exact h
            | 33 => exact h
            | _ + 34 => trivial) (A5.drew) ?_ ?_
        · simp only [List.take_succ_cons, List.take_zero]
          refine Each.cons (fun vs W hl => ?_) ?_
          · apply with34 hl
            clear hl vs
            intro v0 v1 v2 v3 v4 v5 v6 v7 v8 v9 v10 v11 v12 v13 v14 v15 v16 v17 v18 v19 v20 v21 v22 v23 v24 v25 v26 v27 v28 v29 v30 v31 v32 v33 hg hd K hK
            clear hd
            rw [if_pos (by kernel_rfl)]
            simp only [puts, Act.put, List.setIfInBounds_toArray, List.set_cons_zero, List.set_cons_succ] at hK ⊢
            have c0 := hg.a.c0
            have c1 := hg.a.c1
            go_simp
            exact hK _ _ (Below.refl _ _) rfl hg
          refine Each.cons (fun vs W hl => ?_) ?_
          · apply with34 hl
            clear hl vs
            intro v0 v1 v2 v3 v4 v5 v6 v7 v8 v9 v10 v11 v12 v13 v14 v15 v16 v17 v18 v19 v20 v21 v22 v23 v24 v25 v26 v27 v28 v29 v30 v31 v32 v33 hg hd K hK
            clear hd
            rw [if_pos (by kernel_rfl)]
            simp only [puts, Act.put, List.setIfInBounds_toArray, List.set_cons_zero, List.set_cons_succ] at hK ⊢
            have c0 := hg.a.c0
            have c1 := hg.a.c1
            go_simp
            exact hK _ _ (Below.refl _ _) rfl hg
          refine Each.cons (fun vs W hl => ?_) ?_
          · apply with34 hl
            clear hl vs
            intro v0 v1 v2 v3 v4 v5 v6 v7 v8 v9 v10 v11 v12 v13 v14 v15 v16 v17 v18 v19 v20 v21 v22 v23 v24 v25 v26 v27 v28 v29 v30 v31 v32 v33 hg hd K hK
            clear hd
            rw [if_pos (by kernel_rfl)]
            simp only [puts, Act.put, List.setIfInBounds_toArray, List.set_cons_zero, List.set_cons_succ] at hK ⊢
            have c0 := hg.b.c0
            have c1 := hg.b.c1
            go_simp
            exact hK _ _ (Below.refl _ _) rfl hg
          refine Each.cons (fun vs W hl => ?_) ?_
          · apply with34 hl
            clear hl vs
            intro v0 v1 v2 v3 v4 v5 v6 v7 v8 v9 v10 v11 v12 v13 v14 v15 v16 v17 v18 v19 v20 v21 v22 v23 v24 v25 v26 v27 v28 v29 v30 v31 v32 v33 hg hd K hK
            have d1 : v1 = Value.agg #[Value.int IntKind.i64 a, Value.int IntKind.u32 p] := hd 1 v1 (by kernel_rfl) rfl
            subst d1
            have d2 : v2 = Value.agg #[Value.int IntKind.i64 b, Value.int IntKind.u32 q] := hd 2 v2 (by kernel_rfl) rfl
            subst d2
            clear hd
            rw [if_pos (by kernel_rfl)]
            simp only [puts, Act.put, List.setIfInBounds_toArray, List.set_cons_zero, List.set_cons_succ] at hK ⊢
            go_simp
            refine (MT0.out _).mono ?_
            rintro e w' ⟨rfl, hk⟩
            exact hK _ _ hk rfl (hg.call hk)
          refine Each.cons (fun vs W hl => ?_) ?_
          · apply with34 hl
            clear hl vs
            intro v0 v1 v2 v3 v4 v5 v6 v7 v8 v9 v10 v11 v12 v13 v14 v15 v16 v17 v18 v19 v20 v21 v22 v23 v24 v25 v26 v27 v28 v29 v30 v31 v32 v33 hg hd K hK
            have d0 : v0 = Value.agg #[Value.int IntKind.i64 a, Value.int IntKind.u32 p] := hd 0 v0 (by kernel_rfl) rfl
            subst d0
            have d3 : v3 = Value.agg #[Value.int IntKind.i64 mabx, Value.int IntKind.u32 mabp] := hd 3 v3 (by kernel_rfl) rfl
            subst d3
            clear hd
            rw [if_pos (by kernel_rfl)]
            simp only [puts, Act.put, List.setIfInBounds_toArray, List.set_cons_zero, List.set_cons_succ] at hK ⊢
            go_simp
            exact hK _ _ (below1 _ _) (Ls.two _ _ _ _ _) (hg.alloc _)
          refine Each.cons (fun vs W hl => ?_) ?_
          · apply with34 hl
            clear hl vs
            intro v0 v1 v2 v3 v4 v5 v6 v7 v8 v9 v10 v11 v12 v13 v14 v15 v16 v17 v18 v19 v20 v21 v22 v23 v24 v25 v26 v27 v28 v29 v30 v31 v32 v33 hg hd K hK
            have d4 : Ls W v4 [(a, p), (mabx, mabp)] := hd 4 v4 (by kernel_rfl) rfl
            clear hd
            rw [if_pos (by kernel_rfl)]
            simp only [puts, Act.put, List.setIfInBounds_toArray, List.set_cons_zero, List.set_cons_succ] at hK ⊢
            go_simp
            refine (JN7.out _ _ d4).mono ?_
            rintro e w' ⟨rfl, hk⟩
            exact hK _ _ hk rfl (hg.call hk)
          refine Each.cons (fun vs W hl => ?_) ?_
          · apply with34 hl
            clear hl vs
            intro v0 v1 v2 v3 v4 v5 v6 v7 v8 v9 v10 v11 v12 v13 v14 v15 v16 v17 v18 v19 v20 v21 v22 v23 v24 v25 v26 v27 v28 v29 v30 v31 v32 v33 hg hd K hK
            clear hd
            rw [if_pos (by kernel_rfl)]
            simp only [puts, Act.put, List.setIfInBounds_toArray, List.set_cons_zero, List.set_cons_succ] at hK ⊢
            have c0 := hg.a.c0
            have c1 := hg.a.c1
            go_simp
            exact hK _ _ (Below.refl _ _) rfl hg
          refine Each.cons (fun vs W hl => ?_) ?_
          · apply with34 hl
            clear hl vs
            intro v0 v1 v2 v3 v4 v5 v6 v7 v8 v9 v10 v11 v12 v13 v14 v15 v16 v17 v18 v19 v20 v21 v22 v23 v24 v25 v26 v27 v28 v29 v30 v31 v32 v33 hg hd K hK
            have d5 : v5 = Value.agg #[Value.int IntKind.i64 a, Value.int IntKind.u32 p] := hd 5 v5 (by kernel_rfl) rfl
            subst d5
            have d6 : v6 = Value.agg #[Value.int IntKind.i64 a, Value.int IntKind.u32 p] := hd 6 v6 (by kernel_rfl) rfl
            subst d6
            clear hd
            rw [if_pos (by kernel_rfl)]
            simp only [puts, Act.put, List.setIfInBounds_toArray, List.set_cons_zero, List.set_cons_succ] at hK ⊢
            have e24 := eq24r
            go_simp
            exact hK _ _ (Below.refl _ _) rfl hg
          refine Each.cons (fun vs W hl => ?_) ?_
          · apply with34 hl
            clear hl vs
            intro v0 v1 v2 v3 v4 v5 v6 v7 v8 v9 v10 v11 v12 v13 v14 v15 v16 v17 v18 v19 v20 v21 v22 v23 v24 v25 v26 v27 v28 v29 v30 v31 v32 v33 hg hd K hK
            have d7 : v7 = Value.bool true := hd 7 v7 (by kernel_rfl) rfl
            subst d7
            clear hd
            rw [if_pos (by kernel_rfl)]
            simp only [puts, Act.put, List.setIfInBounds_toArray, List.set_cons_zero, List.set_cons_succ] at hK ⊢
            go_simp
            exact hK _ _ (Below.refl _ _) rfl hg
          refine Each.cons (fun vs W hl => ?_) ?_
          · apply with34 hl
            clear hl vs
            intro v0 v1 v2 v3 v4 v5 v6 v7 v8 v9 v10 v11 v12 v13 v14 v15 v16 v17 v18 v19 v20 v21 v22 v23 v24 v25 v26 v27 v28 v29 v30 v31 v32 v33 hg hd K hK
            have d8 : v8 = Value.bool true := hd 8 v8 (by kernel_rfl) rfl
            subst d8
            clear hd
            rw [if_pos (by kernel_rfl)]
            simp only [puts, Act.put, List.setIfInBounds_toArray, List.set_cons_zero, List.set_cons_succ] at hK ⊢
            have c0 := hg.a.c0
            have c1 := hg.a.c1
            go_simp
            exact hK _ _ (Below.refl _ _) rfl hg
          refine Each.cons (fun vs W hl => ?_) ?_
          · apply with34 hl
            clear hl vs
            intro v0 v1 v2 v3 v4 v5 v6 v7 v8 v9 v10 v11 v12 v13 v14 v15 v16 v17 v18 v19 v20 v21 v22 v23 v24 v25 v26 v27 v28 v29 v30 v31 v32 v33 hg hd K hK
            have d8 : v8 = Value.bool true := hd 8 v8 (by kernel_rfl) rfl
            subst d8
            clear hd
            rw [if_pos (by kernel_rfl)]
            simp only [puts, Act.put, List.setIfInBounds_toArray, List.set_cons_zero, List.set_cons_succ] at hK ⊢
            have c0 := hg.a.c0
            have c1 := hg.a.c1
            go_simp
            exact hK _ _ (Below.refl _ _) rfl hg
          refine Each.cons (fun vs W hl => ?_) ?_
          · apply with34 hl
            clear hl vs
            intro v0 v1 v2 v3 v4 v5 v6 v7 v8 v9 v10 v11 v12 v13 v14 v15 v16 v17 v18 v19 v20 v21 v22 v23 v24 v25 v26 v27 v28 v29 v30 v31 v32 v33 hg hd K hK
            have d8 : v8 = Value.bool true := hd 8 v8 (by kernel_rfl) rfl
            subst d8
            clear hd
            rw [if_pos (by kernel_rfl)]
            simp only [puts, Act.put, List.setIfInBounds_toArray, List.set_cons_zero, List.set_cons_succ] at hK ⊢
            have c0 := hg.b.c0
            have c1 := hg.b.c1
            go_simp
            exact hK _ _ (Below.refl _ _) rfl hg
          refine Each.cons (fun vs W hl => ?_) ?_
          · apply with34 hl
            clear hl vs
            intro v0 v1 v2 v3 v4 v5 v6 v7 v8 v9 v10 v11 v12 v13 v14 v15 v16 v17 v18 v19 v20 v21 v22 v23 v24 v25 v26 v27 v28 v29 v30 v31 v32 v33 hg hd K hK
            have d8 : v8 = Value.bool true := hd 8 v8 (by kernel_rfl) rfl
            subst d8
            have d10 : v10 = Value.agg #[Value.int IntKind.i64 a, Value.int IntKind.u32 p] := hd 10 v10 (by kernel_rfl) rfl
            subst d10
            have d11 : v11 = Value.agg #[Value.int IntKind.i64 b, Value.int IntKind.u32 q] := hd 11 v11 (by kernel_rfl) rfl
            subst d11
            clear hd
            rw [if_pos (by kernel_rfl)]
            simp only [puts, Act.put, List.setIfInBounds_toArray, List.set_cons_zero, List.set_cons_succ] at hK ⊢
            go_simp
            exact hK _ _ (below1 _ _) (Ls.two _ _ _ _ _) (hg.alloc _)
          refine Each.cons (fun vs W hl => ?_) ?_
          · apply with34 hl
            clear hl vs
            intro v0 v1 v2 v3 v4 v5 v6 v7 v8 v9 v10 v11 v12 v13 v14 v15 v16 v17 v18 v19 v20 v21 v22 v23 v24 v25 v26 v27 v28 v29 v30 v31 v32 v33 hg hd K hK
            have d8 : v8 = Value.bool true := hd 8 v8 (by kernel_rfl) rfl
            subst d8
            have d12 : Ls W v12 [(a, p), (b, q)] := hd 12 v12 (by kernel_rfl) rfl
            clear hd
            rw [if_pos (by kernel_rfl)]
            simp only [puts, Act.put, List.setIfInBounds_toArray, List.set_cons_zero, List.set_cons_succ] at hK ⊢
            go_simp
            refine (JN0.out _ _ d12).mono ?_
            rintro e w' ⟨rfl, hk⟩
            exact hK _ _ hk rfl (hg.call hk)
          refine Each.cons (fun vs W hl => ?_) ?_
          · apply with34 hl
            clear hl vs
            intro v0 v1 v2 v3 v4 v5 v6 v7 v8 v9 v10 v11 v12 v13 v14 v15 v16 v17 v18 v19 v20 v21 v22 v23 v24 v25 v26 v27 v28 v29 v30 v31 v32 v33 hg hd K hK
            have d8 : v8 = Value.bool true := hd 8 v8 (by kernel_rfl) rfl
            subst d8
            have d9 : v9 = Value.agg #[Value.int IntKind.i64 a, Value.int IntKind.u32 p] := hd 9 v9 (by kernel_rfl) rfl
            subst d9
            have d13 : v13 = Value.agg #[Value.int IntKind.i64 jabx, Value.int IntKind.u32 jabp] := hd 13 v13 (by kernel_rfl) rfl
            subst d13
            clear hd
            rw [if_pos (by kernel_rfl)]
            simp only [puts, Act.put, List.setIfInBounds_toArray, List.set_cons_zero, List.set_cons_succ] at hK ⊢
            go_simp
            refine (MT5.out _).mono ?_
            rintro e w' ⟨rfl, hk⟩
            exact hK _ _ hk rfl (hg.call hk)
          refine Each.cons (fun vs W hl => ?_) ?_
          · apply with34 hl
            clear hl vs
            intro v0 v1 v2 v3 v4 v5 v6 v7 v8 v9 v10 v11 v12 v13 v14 v15 v16 v17 v18 v19 v20 v21 v22 v23 v24 v25 v26 v27 v28 v29 v30 v31 v32 v33 hg hd K hK
            have d8 : v8 = Value.bool true := hd 8 v8 (by kernel_rfl) rfl
            subst d8
            clear hd
            rw [if_pos (by kernel_rfl)]
            simp only [puts, Act.put, List.setIfInBounds_toArray, List.set_cons_zero, List.set_cons_succ] at hK ⊢
            have c0 := hg.a.c0
            have c1 := hg.a.c1
            go_simp
            exact hK _ _ (Below.refl _ _) rfl hg
          refine Each.cons (fun vs W hl => ?_) ?_
          · apply with34 hl
            clear hl vs
            intro v0 v1 v2 v3 v4 v5 v6 v7 v8 v9 v10 v11 v12 v13 v14 v15 v16 v17 v18 v19 v20 v21 v22 v23 v24 v25 v26 v27 v28 v29 v30 v31 v32 v33 hg hd K hK
            have d8 : v8 = Value.bool true := hd 8 v8 (by kernel_rfl) rfl
            subst d8
            have d14 : v14 = Value.agg #[Value.int IntKind.i64 a, Value.int IntKind.u32 p] := hd 14 v14 (by kernel_rfl) rfl
            subst d14
            have d15 : v15 = Value.agg #[Value.int IntKind.i64 a, Value.int IntKind.u32 p] := hd 15 v15 (by kernel_rfl) rfl
            subst d15
            clear hd
            rw [if_pos (by kernel_rfl)]
            simp only [puts, Act.put, List.setIfInBounds_toArray, List.set_cons_zero, List.set_cons_succ] at hK ⊢
            have e24 := eq24r
            go_simp
            exact hK _ _ (Below.refl _ _) rfl hg
          refine Each.cons (fun vs W hl => ?_) ?_
          · apply with34 hl
            clear hl vs
            intro v0 v1 v2 v3 v4 v5 v6 v7 v8 v9 v10 v11 v12 v13 v14 v15 v16 v17 v18 v19 v20 v21 v22 v23 v24 v25 v26 v27 v28 v29 v30 v31 v32 v33 hg hd K hK
            have d8 : v8 = Value.bool true := hd 8 v8 (by kernel_rfl) rfl
            subst d8
            have d16 : v16 = Value.bool true := hd 16 v16 (by kernel_rfl) rfl
            subst d16
            clear hd
            rw [if_pos (by kernel_rfl)]
            simp only [puts, Act.put, List.setIfInBounds_toArray, List.set_cons_zero, List.set_cons_succ] at hK ⊢
            go_simp
            exact hK _ _ (Below.refl _ _) rfl hg
          refine Each.cons (fun vs W hl => ?_) ?_
          · apply with34 hl
            clear hl vs
            intro v0 v1 v2 v3 v4 v5 v6 v7 v8 v9 v10 v11 v12 v13 v14 v15 v16 v17 v18 v19 v20 v21 v22 v23 v24 v25 v26 v27 v28 v29 v30 v31 v32 v33 hg hd K hK
            have d17 : v17 = Value.bool true := hd 17 v17 (by kernel_rfl) rfl
            subst d17
            clear hd
            rw [if_pos (by kernel_rfl)]
            simp only [puts, Act.put, List.setIfInBounds_toArray, List.set_cons_zero, List.set_cons_succ] at hK ⊢
            go_simp
            exact hK _ _ (Below.refl _ _) rfl hg
          refine Each.cons (fun vs W hl => ?_) ?_
          · apply with34 hl
            clear hl vs
            intro v0 v1 v2 v3 v4 v5 v6 v7 v8 v9 v10 v11 v12 v13 v14 v15 v16 v17 v18 v19 v20 v21 v22 v23 v24 v25 v26 v27 v28 v29 v30 v31 v32 v33 hg hd K hK
            have d18 : v18 = Value.bool true := hd 18 v18 (by kernel_rfl) rfl
            subst d18
            clear hd
            rw [if_pos (by kernel_rfl)]
            simp only [puts, Act.put, List.setIfInBounds_toArray, List.set_cons_zero, List.set_cons_succ] at hK ⊢
            have c0 := hg.a.c0
            have c1 := hg.a.c1
            go_simp
            exact hK _ _ (Below.refl _ _) rfl hg
          refine Each.cons (fun vs W hl => ?_) ?_
          · apply with34 hl
            clear hl vs
            intro v0 v1 v2 v3 v4 v5 v6 v7 v8 v9 v10 v11 v12 v13 v14 v15 v16 v17 v18 v19 v20 v21 v22 v23 v24 v25 v26 v27 v28 v29 v30 v31 v32 v33 hg hd K hK
            have d18 : v18 = Value.bool true := hd 18 v18 (by kernel_rfl) rfl
            subst d18
            clear hd
            rw [if_pos (by kernel_rfl)]
            simp only [puts, Act.put, List.setIfInBounds_toArray, List.set_cons_zero, List.set_cons_succ] at hK ⊢
            have c0 := hg.a.c0
            have c1 := hg.a.c1
            go_simp
            exact hK _ _ (Below.refl _ _) rfl hg
          refine Each.cons (fun vs W hl => ?_) ?_
          · apply with34 hl
            clear hl vs
            intro v0 v1 v2 v3 v4 v5 v6 v7 v8 v9 v10 v11 v12 v13 v14 v15 v16 v17 v18 v19 v20 v21 v22 v23 v24 v25 v26 v27 v28 v29 v30 v31 v32 v33 hg hd K hK
            have d18 : v18 = Value.bool true := hd 18 v18 (by kernel_rfl) rfl
            subst d18
            have d19 : v19 = Value.agg #[Value.int IntKind.i64 a, Value.int IntKind.u32 p] := hd 19 v19 (by kernel_rfl) rfl
            subst d19
            have d20 : v20 = Value.agg #[Value.int IntKind.i64 a, Value.int IntKind.u32 p] := hd 20 v20 (by kernel_rfl) rfl
            subst d20
            clear hd
            rw [if_pos (by kernel_rfl)]
            simp only [puts, Act.put, List.setIfInBounds_toArray, List.set_cons_zero, List.set_cons_succ] at hK ⊢
            go_simp
            exact hK _ _ (below1 _ _) (Ls.two _ _ _ _ _) (hg.alloc _)
          refine Each.cons (fun vs W hl => ?_) ?_
          · apply with34 hl
            clear hl vs
            intro v0 v1 v2 v3 v4 v5 v6 v7 v8 v9 v10 v11 v12 v13 v14 v15 v16 v17 v18 v19 v20 v21 v22 v23 v24 v25 v26 v27 v28 v29 v30 v31 v32 v33 hg hd K hK
            have d18 : v18 = Value.bool true := hd 18 v18 (by kernel_rfl) rfl
            subst d18
            have d21 : Ls W v21 [(a, p), (a, p)] := hd 21 v21 (by kernel_rfl) rfl
            clear hd
            rw [if_pos (by kernel_rfl)]
            simp only [puts, Act.put, List.setIfInBounds_toArray, List.set_cons_zero, List.set_cons_succ] at hK ⊢
            go_simp
            refine (JN8.out _ _ d21).mono ?_
            rintro e w' ⟨rfl, hk⟩
            exact hK _ _ hk rfl (hg.call hk)
          refine Each.cons (fun vs W hl => ?_) ?_
          · apply with34 hl
            clear hl vs
            intro v0 v1 v2 v3 v4 v5 v6 v7 v8 v9 v10 v11 v12 v13 v14 v15 v16 v17 v18 v19 v20 v21 v22 v23 v24 v25 v26 v27 v28 v29 v30 v31 v32 v33 hg hd K hK
            have d18 : v18 = Value.bool true := hd 18 v18 (by kernel_rfl) rfl
            subst d18
            clear hd
            rw [if_pos (by kernel_rfl)]
            simp only [puts, Act.put, List.setIfInBounds_toArray, List.set_cons_zero, List.set_cons_succ] at hK ⊢
            have c0 := hg.a.c0
            have c1 := hg.a.c1
            go_simp
            exact hK _ _ (Below.refl _ _) rfl hg
          refine Each.cons (fun vs W hl => ?_) ?_
          · apply with34 hl
            clear hl vs
            intro v0 v1 v2 v3 v4 v5 v6 v7 v8 v9 v10 v11 v12 v13 v14 v15 v16 v17 v18 v19 v20 v21 v22 v23 v24 v25 v26 v27 v28 v29 v30 v31 v32 v33 hg hd K hK
            have d18 : v18 = Value.bool true := hd 18 v18 (by kernel_rfl) rfl
            subst d18
            have d22 : v22 = Value.agg #[Value.int IntKind.i64 a, Value.int IntKind.u32 p] := hd 22 v22 (by kernel_rfl) rfl
            subst d22
            have d23 : v23 = Value.agg #[Value.int IntKind.i64 a, Value.int IntKind.u32 p] := hd 23 v23 (by kernel_rfl) rfl
            subst d23
            clear hd
            rw [if_pos (by kernel_rfl)]
            simp only [puts, Act.put, List.setIfInBounds_toArray, List.set_cons_zero, List.set_cons_succ] at hK ⊢
            have e24 := eq24r
            go_simp
            exact hK _ _ (Below.refl _ _) rfl hg
          refine Each.cons (fun vs W hl => ?_) ?_
          · apply with34 hl
            clear hl vs
            intro v0 v1 v2 v3 v4 v5 v6 v7 v8 v9 v10 v11 v12 v13 v14 v15 v16 v17 v18 v19 v20 v21 v22 v23 v24 v25 v26 v27 v28 v29 v30 v31 v32 v33 hg hd K hK
            have d18 : v18 = Value.bool true := hd 18 v18 (by kernel_rfl) rfl
            subst d18
            have d24 : v24 = Value.bool true := hd 24 v24 (by kernel_rfl) rfl
            subst d24
            clear hd
            rw [if_pos (by kernel_rfl)]
            simp only [puts, Act.put, List.setIfInBounds_toArray, List.set_cons_zero, List.set_cons_succ] at hK ⊢
            go_simp
            exact hK _ _ (Below.refl _ _) rfl hg
          refine Each.cons (fun vs W hl => ?_) ?_
          · apply with34 hl
            clear hl vs
            intro v0 v1 v2 v3 v4 v5 v6 v7 v8 v9 v10 v11 v12 v13 v14 v15 v16 v17 v18 v19 v20 v21 v22 v23 v24 v25 v26 v27 v28 v29 v30 v31 v32 v33 hg hd K hK
            have d25 : v25 = Value.bool true := hd 25 v25 (by kernel_rfl) rfl
            subst d25
            clear hd
            rw [if_pos (by kernel_rfl)]
            simp only [puts, Act.put, List.setIfInBounds_toArray, List.set_cons_zero, List.set_cons_succ] at hK ⊢
            go_simp
            exact hK _ _ (Below.refl _ _) rfl hg
          refine Each.cons (fun vs W hl => ?_) ?_
          · apply with34 hl
            clear hl vs
            intro v0 v1 v2 v3 v4 v5 v6 v7 v8 v9 v10 v11 v12 v13 v14 v15 v16 v17 v18 v19 v20 v21 v22 v23 v24 v25 v26 v27 v28 v29 v30 v31 v32 v33 hg hd K hK
            have d26 : v26 = Value.bool true := hd 26 v26 (by kernel_rfl) rfl
            subst d26
            clear hd
            rw [if_pos (by kernel_rfl)]
            simp only [puts, Act.put, List.setIfInBounds_toArray, List.set_cons_zero, List.set_cons_succ] at hK ⊢
            have c0 := hg.a.c0
            have c1 := hg.a.c1
            go_simp
            exact hK _ _ (Below.refl _ _) rfl hg
          refine Each.cons (fun vs W hl => ?_) ?_
          · apply with34 hl
            clear hl vs
            intro v0 v1 v2 v3 v4 v5 v6 v7 v8 v9 v10 v11 v12 v13 v14 v15 v16 v17 v18 v19 v20 v21 v22 v23 v24 v25 v26 v27 v28 v29 v30 v31 v32 v33 hg hd K hK
            have d26 : v26 = Value.bool true := hd 26 v26 (by kernel_rfl) rfl
            subst d26
            clear hd
            rw [if_pos (by kernel_rfl)]
            simp only [puts, Act.put, List.setIfInBounds_toArray, List.set_cons_zero, List.set_cons_succ] at hK ⊢
            have c0 := hg.a.c0
            have c1 := hg.a.c1
            go_simp
            exact hK _ _ (Below.refl _ _) rfl hg
          refine Each.cons (fun vs W hl => ?_) ?_
          · apply with34 hl
            clear hl vs
            intro v0 v1 v2 v3 v4 v5 v6 v7 v8 v9 v10 v11 v12 v13 v14 v15 v16 v17 v18 v19 v20 v21 v22 v23 v24 v25 v26 v27 v28 v29 v30 v31 v32 v33 hg hd K hK
            have d26 : v26 = Value.bool true := hd 26 v26 (by kernel_rfl) rfl
            subst d26
            have d27 : v27 = Value.agg #[Value.int IntKind.i64 a, Value.int IntKind.u32 p] := hd 27 v27 (by kernel_rfl) rfl
            subst d27
            have d28 : v28 = Value.agg #[Value.int IntKind.i64 a, Value.int IntKind.u32 p] := hd 28 v28 (by kernel_rfl) rfl
            subst d28
            clear hd
            rw [if_pos (by kernel_rfl)]
            simp only [puts, Act.put, List.setIfInBounds_toArray, List.set_cons_zero, List.set_cons_succ] at hK ⊢
            go_simp
            refine (MT6.out _).mono ?_
            rintro e w' ⟨rfl, hk⟩
            exact hK _ _ hk rfl (hg.call hk)
          refine Each.cons (fun vs W hl => ?_) ?_
          · apply with34 hl
            clear hl vs
            intro v0 v1 v2 v3 v4 v5 v6 v7 v8 v9 v10 v11 v12 v13 v14 v15 v16 v17 v18 v19 v20 v21 v22 v23 v24 v25 v26 v27 v28 v29 v30 v31 v32 v33 hg hd K hK
            have d26 : v26 = Value.bool true := hd 26 v26 (by kernel_rfl) rfl
            subst d26
            clear hd
            rw [if_pos (by kernel_rfl)]
            simp only [puts, Act.put, List.setIfInBounds_toArray, List.set_cons_zero, List.set_cons_succ] at hK ⊢
            have c0 := hg.a.c0
            have c1 := hg.a.c1
            go_simp
            exact hK _ _ (Below.refl _ _) rfl hg
          refine Each.cons (fun vs W hl => ?_) ?_
          · apply with34 hl
            clear hl vs
            intro v0 v1 v2 v3 v4 v5 v6 v7 v8 v9 v10 v11 v12 v13 v14 v15 v16 v17 v18 v19 v20 v21 v22 v23 v24 v25 v26 v27 v28 v29 v30 v31 v32 v33 hg hd K hK
            have d26 : v26 = Value.bool true := hd 26 v26 (by kernel_rfl) rfl
            subst d26
            have d29 : v29 = Value.agg #[Value.int IntKind.i64 a, Value.int IntKind.u32 p] := hd 29 v29 (by kernel_rfl) rfl
            subst d29
            have d30 : v30 = Value.agg #[Value.int IntKind.i64 a, Value.int IntKind.u32 p] := hd 30 v30 (by kernel_rfl) rfl
            subst d30
            clear hd
            rw [if_pos (by kernel_rfl)]
            simp only [puts, Act.put, List.setIfInBounds_toArray, List.set_cons_zero, List.set_cons_succ] at hK ⊢
            have e24 := eq24r
            go_simp
            exact hK _ _ (Below.refl _ _) rfl hg
          refine Each.cons (fun vs W hl => ?_) ?_
          · apply with34 hl
            clear hl vs
            intro v0 v1 v2 v3 v4 v5 v6 v7 v8 v9 v10 v11 v12 v13 v14 v15 v16 v17 v18 v19 v20 v21 v22 v23 v24 v25 v26 v27 v28 v29 v30 v31 v32 v33 hg hd K hK
            have d26 : v26 = Value.bool true := hd 26 v26 (by kernel_rfl) rfl
            subst d26
            have d31 : v31 = Value.bool true := hd 31 v31 (by kernel_rfl) rfl
            subst d31
            clear hd
            rw [if_pos (by kernel_rfl)]
            simp only [puts, Act.put, List.setIfInBounds_toArray, List.set_cons_zero, List.set_cons_succ] at hK ⊢
            go_simp
            exact hK _ _ (Below.refl _ _) rfl hg
          refine Each.cons (fun vs W hl => ?_) ?_
          · apply with34 hl
            clear hl vs
            intro v0 v1 v2 v3 v4 v5 v6 v7 v8 v9 v10 v11 v12 v13 v14 v15 v16 v17 v18 v19 v20 v21 v22 v23 v24 v25 v26 v27 v28 v29 v30 v31 v32 v33 hg hd K hK
            have d32 : v32 = Value.bool true := hd 32 v32 (by kernel_rfl) rfl
            subst d32
            clear hd
            rw [if_pos (by kernel_rfl)]
            simp only [puts, Act.put, List.setIfInBounds_toArray, List.set_cons_zero, List.set_cons_succ] at hK ⊢
            go_simp
            exact hK _ _ (Below.refl _ _) rfl hg
          exact Each.nil
        · intro vs W hl
          apply with34 hl
          clear hl vs
          intro v0 v1 v2 v3 v4 v5 v6 v7 v8 v9 v10 v11 v12 v13 v14 v15 v16 v17 v18 v19 v20 v21 v22 v23 v24 v25 v26 v27 v28 v29 v30 v31 v32 v33 hg hall
          have d0 : v0 = Value.agg #[Value.int IntKind.i64 a, Value.int IntKind.u32 p] := hall 0 v0 rfl
          subst d0
          have d1 : v1 = Value.agg #[Value.int IntKind.i64 a, Value.int IntKind.u32 p] := hall 1 v1 rfl
          subst d1
          have d2 : v2 = Value.agg #[Value.int IntKind.i64 b, Value.int IntKind.u32 q] := hall 2 v2 rfl
          subst d2
          have d3 : v3 = Value.agg #[Value.int IntKind.i64 mabx, Value.int IntKind.u32 mabp] := hall 3 v3 rfl
          subst d3
          have d4 : Ls W v4 [(a, p), (mabx, mabp)] := hall 4 v4 rfl
          have d5 : v5 = Value.agg #[Value.int IntKind.i64 a, Value.int IntKind.u32 p] := hall 5 v5 rfl
          subst d5
          have d6 : v6 = Value.agg #[Value.int IntKind.i64 a, Value.int IntKind.u32 p] := hall 6 v6 rfl
          subst d6
          have d7 : v7 = Value.bool true := hall 7 v7 rfl
          subst d7
          have d8 : v8 = Value.bool true := hall 8 v8 rfl
          subst d8
          have d9 : v9 = Value.agg #[Value.int IntKind.i64 a, Value.int IntKind.u32 p] := hall 9 v9 rfl
          subst d9
          have d10 : v10 = Value.agg #[Value.int IntKind.i64 a, Value.int IntKind.u32 p] := hall 10 v10 rfl
          subst d10
          have d11 : v11 = Value.agg #[Value.int IntKind.i64 b, Value.int IntKind.u32 q] := hall 11 v11 rfl
          subst d11
          have d12 : Ls W v12 [(a, p), (b, q)] := hall 12 v12 rfl
          have d13 : v13 = Value.agg #[Value.int IntKind.i64 jabx, Value.int IntKind.u32 jabp] := hall 13 v13 rfl
          subst d13
          have d14 : v14 = Value.agg #[Value.int IntKind.i64 a, Value.int IntKind.u32 p] := hall 14 v14 rfl
          subst d14
          have d15 : v15 = Value.agg #[Value.int IntKind.i64 a, Value.int IntKind.u32 p] := hall 15 v15 rfl
          subst d15
          have d16 : v16 = Value.bool true := hall 16 v16 rfl
          subst d16
          have d17 : v17 = Value.bool true := hall 17 v17 rfl
          subst d17
          have d18 : v18 = Value.bool true := hall 18 v18 rfl
          subst d18
          have d19 : v19 = Value.agg #[Value.int IntKind.i64 a, Value.int IntKind.u32 p] := hall 19 v19 rfl
          subst d19
          have d20 : v20 = Value.agg #[Value.int IntKind.i64 a, Value.int IntKind.u32 p] := hall 20 v20 rfl
          subst d20
          have d21 : Ls W v21 [(a, p), (a, p)] := hall 21 v21 rfl
          have d22 : v22 = Value.agg #[Value.int IntKind.i64 a, Value.int IntKind.u32 p] := hall 22 v22 rfl
          subst d22
          have d23 : v23 = Value.agg #[Value.int IntKind.i64 a, Value.int IntKind.u32 p] := hall 23 v23 rfl
          subst d23
          have d24 : v24 = Value.bool true := hall 24 v24 rfl
          subst d24
          have d25 : v25 = Value.bool true := hall 25 v25 rfl
          subst d25
          have d26 : v26 = Value.bool true := hall 26 v26 rfl
          subst d26
          have d27 : v27 = Value.agg #[Value.int IntKind.i64 a, Value.int IntKind.u32 p] := hall 27 v27 rfl
          subst d27
          have d28 : v28 = Value.agg #[Value.int IntKind.i64 a, Value.int IntKind.u32 p] := hall 28 v28 rfl
          subst d28
          have d29 : v29 = Value.agg #[Value.int IntKind.i64 a, Value.int IntKind.u32 p] := hall 29 v29 rfl
          subst d29
          have d30 : v30 = Value.agg #[Value.int IntKind.i64 a, Value.int IntKind.u32 p] := hall 30 v30 rfl
          subst d30
          have d31 : v31 = Value.bool true := hall 31 v31 rfl
          subst d31
          have d32 : v32 = Value.bool true := hall 32 v32 rfl
          subst d32
          have d33 : v33 = Value.bool true := hall 33 v33 rfl
          subst d33
          clear hall
          simp only [puts, Act.put, List.setIfInBounds_toArray, List.set_cons_zero, List.set_cons_succ, List.take_succ_cons, List.take_zero, List.drop_succ_cons, List.drop_zero]
          have A6 := hg
          clear hg A5
          clear d4 d12 d21
          generalize W = w6 at *
          go_wp2_with fail
          refine wp_region_each 37 (fun W W' => Below W.heap.size W W') (fun i v W => match i with | 0 => v = Value.bool true | 1 => v = Value.bool true | 2 => v = Value.bool true | 3 => v = Value.bool true | 4 => v = Value.bool true | 5 => v = Value.bool true | 6 => v = Value.bool true | 7 => v = Value.bool true | 8 => v = Value.agg #[Value.int IntKind.i64 a, Value.int IntKind.u32 p] | 9 => Ls W v [(a, p)] | 10 => v = Value.agg #[Value.int IntKind.i64 a, Value.int IntKind.u32 p] | 11 => v = Value.agg #[Value.int IntKind.i64 a, Value.int IntKind.u32 p] | 12 => v = Value.bool true | 13 => v = Value.bool true | 14 => v = Value.bool true | 15 => v = Value.agg #[Value.int IntKind.i64 0, Value.int IntKind.u32 0] | 16 => v = Value.agg #[Value.int IntKind.i64 0, Value.int IntKind.u32 0] | 17 => v = Value.bool true | 18 => v = Value.bool true | 19 => v = Value.bool true | 20 => v = Value.agg #[Value.int IntKind.i64 a, Value.int IntKind.u32 p] | 21 => v = Value.agg #[Value.int IntKind.i64 b, Value.int IntKind.u32 q] | 22 => v = Value.agg #[Value.int IntKind.i64 c, Value.int IntKind.u32 r] | 23 => Ls W v [(b, q), (c, r)] | 24 => v = Value.agg #[Value.int IntKind.i64 jbcx, Value.int IntKind.u32 jbcp] | 25 => v = Value.agg #[Value.int IntKind.i64 ddx, Value.int IntKind.u32 ddp] | 26 => v = Value.agg #[Value.int IntKind.i64 a, Value.int IntKind.u32 p] | 27 => v = Value.agg #[Value.int IntKind.i64 b, Value.int IntKind.u32 q] | 28 => v = Value.agg #[Value.int IntKind.i64 mabx, Value.int IntKind.u32 mabp] | 29 => v = Value.agg #[Value.int IntKind.i64 a, Value.int IntKind.u32 p] | 30 => v = Value.agg #[Value.int IntKind.i64 c, Value.int IntKind.u32 r] | 31 => v = Value.agg #[Value.int IntKind.i64 macx, Value.int IntKind.u32 macp] | 32 => Ls W v [(mabx, mabp), (macx, macp)] | 33 => v = Value.agg #[Value.int IntKind.i64 ddx, Value.int IntKind.u32 ddp] | 34 => v = Value.bool true | 35 => v = Value.bool true | 36 => v = Value.bool true | _ => True) (fun _ W => L3 w N a p b q c r W) (by kernel_rfl) (by kernel_rfl) (fun j v W W' hE h => by
              match j with
              | 0 => exact h
              | 1 => exact h
              | 2 => exact h
              | 3 => exact h
              | 4 => exact h
              | 5 => exact h
              | 6 => exact h
              | 7 => exact h
              | 8 => exact h
              | 9 => exact Ls.keep h hE
              | 10 => exact h
              | 11 => exact h
              | 12 => exact h
              | 13 => exact h
              | 14 => exact h
              | 15 => exact h
              | 16 => exact h
              | 17 => exact h
              | 18 => exact h
              | 19 => exact h
              | 20 => exact h
              | 21 => exact h
              | 22 => exact h
              | 23 => exact Ls.keep h hE
              | 24 => exact h
              | 25 => exact h
              | 26 => exact h
              | 27 => exact h
              | 28 => exact h
              | 29 => exact h
              | 30 => exact h
              | 31 => exact h
              | 32 => exact Ls.keep h hE
              | 33 => exact h
              | 34 => exact h
              | 35 => exact h
              | 36 => exact h
              | _ + 37 => trivial) (A6.drew) ?_ ?_
          · simp only [List.take_succ_cons, List.take_zero]
            refine Each.cons (fun vs W hl => ?_) ?_
            · apply with37 hl
              clear hl vs
              intro v0 v1 v2 v3 v4 v5 v6 v7 v8 v9 v10 v11 v12 v13 v14 v15 v16 v17 v18 v19 v20 v21 v22 v23 v24 v25 v26 v27 v28 v29 v30 v31 v32 v33 v34 v35 v36 hg hd K hK
              clear hd
              rw [if_pos (by kernel_rfl)]
              simp only [puts, Act.put, List.setIfInBounds_toArray, List.set_cons_zero, List.set_cons_succ] at hK ⊢
              go_simp
              exact hK _ _ (Below.refl _ _) rfl hg
            refine Each.cons (fun vs W hl => ?_) ?_
            · apply with37 hl
              clear hl vs
              intro v0 v1 v2 v3 v4 v5 v6 v7 v8 v9 v10 v11 v12 v13 v14 v15 v16 v17 v18 v19 v20 v21 v22 v23 v24 v25 v26 v27 v28 v29 v30 v31 v32 v33 v34 v35 v36 hg hd K hK
              have d0 : v0 = Value.bool true := hd 0 v0 (by kernel_rfl) rfl
              subst d0
              clear hd
              rw [if_pos (by kernel_rfl)]
              simp only [puts, Act.put, List.setIfInBounds_toArray, List.set_cons_zero, List.set_cons_succ] at hK ⊢
              go_simp
              exact hK _ _ (Below.refl _ _) rfl hg
            refine Each.cons (fun vs W hl => ?_) ?_
            · apply with37 hl
              clear hl vs
              intro v0 v1 v2 v3 v4 v5 v6 v7 v8 v9 v10 v11 v12 v13 v14 v15 v16 v17 v18 v19 v20 v21 v22 v23 v24 v25 v26 v27 v28 v29 v30 v31 v32 v33 v34 v35 v36 hg hd K hK
              have d1 : v1 = Value.bool true := hd 1 v1 (by kernel_rfl) rfl
              subst d1
              clear hd
              rw [if_pos (by kernel_rfl)]
              simp only [puts, Act.put, List.setIfInBounds_toArray, List.set_cons_zero, List.set_cons_succ] at hK ⊢
              go_simp
              exact hK _ _ (Below.refl _ _) rfl hg
            refine Each.cons (fun vs W hl => ?_) ?_
            · apply with37 hl
              clear hl vs
              intro v0 v1 v2 v3 v4 v5 v6 v7 v8 v9 v10 v11 v12 v13 v14 v15 v16 v17 v18 v19 v20 v21 v22 v23 v24 v25 v26 v27 v28 v29 v30 v31 v32 v33 v34 v35 v36 hg hd K hK
              have d1 : v1 = Value.bool true := hd 1 v1 (by kernel_rfl) rfl
              subst d1
              have d2 : v2 = Value.bool true := hd 2 v2 (by kernel_rfl) rfl
              subst d2
              clear hd
              rw [if_pos (by kernel_rfl)]
              simp only [puts, Act.put, List.setIfInBounds_toArray, List.set_cons_zero, List.set_cons_succ] at hK ⊢
              go_simp
              exact hK _ _ (Below.refl _ _) rfl hg
            refine Each.cons (fun vs W hl => ?_) ?_
            · apply with37 hl
              clear hl vs
              intro v0 v1 v2 v3 v4 v5 v6 v7 v8 v9 v10 v11 v12 v13 v14 v15 v16 v17 v18 v19 v20 v21 v22 v23 v24 v25 v26 v27 v28 v29 v30 v31 v32 v33 v34 v35 v36 hg hd K hK
              have d3 : v3 = Value.bool true := hd 3 v3 (by kernel_rfl) rfl
              subst d3
              clear hd
              rw [if_pos (by kernel_rfl)]
              simp only [puts, Act.put, List.setIfInBounds_toArray, List.set_cons_zero, List.set_cons_succ] at hK ⊢
              go_simp
              exact hK _ _ (Below.refl _ _) rfl hg
            refine Each.cons (fun vs W hl => ?_) ?_
            · apply with37 hl
              clear hl vs
              intro v0 v1 v2 v3 v4 v5 v6 v7 v8 v9 v10 v11 v12 v13 v14 v15 v16 v17 v18 v19 v20 v21 v22 v23 v24 v25 v26 v27 v28 v29 v30 v31 v32 v33 v34 v35 v36 hg hd K hK
              have d4 : v4 = Value.bool true := hd 4 v4 (by kernel_rfl) rfl
              subst d4
              clear hd
              rw [if_pos (by kernel_rfl)]
              simp only [puts, Act.put, List.setIfInBounds_toArray, List.set_cons_zero, List.set_cons_succ] at hK ⊢
              go_simp
              exact hK _ _ (Below.refl _ _) rfl hg
            refine Each.cons (fun vs W hl => ?_) ?_
            · apply with37 hl
              clear hl vs
              intro v0 v1 v2 v3 v4 v5 v6 v7 v8 v9 v10 v11 v12 v13 v14 v15 v16 v17 v18 v19 v20 v21 v22 v23 v24 v25 v26 v27 v28 v29 v30 v31 v32 v33 v34 v35 v36 hg hd K hK
              have d4 : v4 = Value.bool true := hd 4 v4 (by kernel_rfl) rfl
              subst d4
              have d5 : v5 = Value.bool true := hd 5 v5 (by kernel_rfl) rfl
              subst d5
              clear hd
              rw [if_pos (by kernel_rfl)]
              simp only [puts, Act.put, List.setIfInBounds_toArray, List.set_cons_zero, List.set_cons_succ] at hK ⊢
              go_simp
              exact hK _ _ (Below.refl _ _) rfl hg
            refine Each.cons (fun vs W hl => ?_) ?_
            · apply with37 hl
              clear hl vs
              intro v0 v1 v2 v3 v4 v5 v6 v7 v8 v9 v10 v11 v12 v13 v14 v15 v16 v17 v18 v19 v20 v21 v22 v23 v24 v25 v26 v27 v28 v29 v30 v31 v32 v33 v34 v35 v36 hg hd K hK
              have d6 : v6 = Value.bool true := hd 6 v6 (by kernel_rfl) rfl
              subst d6
              clear hd
              rw [if_pos (by kernel_rfl)]
              simp only [puts, Act.put, List.setIfInBounds_toArray, List.set_cons_zero, List.set_cons_succ] at hK ⊢
              go_simp
              exact hK _ _ (Below.refl _ _) rfl hg
            refine Each.cons (fun vs W hl => ?_) ?_
            · apply with37 hl
              clear hl vs
              intro v0 v1 v2 v3 v4 v5 v6 v7 v8 v9 v10 v11 v12 v13 v14 v15 v16 v17 v18 v19 v20 v21 v22 v23 v24 v25 v26 v27 v28 v29 v30 v31 v32 v33 v34 v35 v36 hg hd K hK
              have d7 : v7 = Value.bool true := hd 7 v7 (by kernel_rfl) rfl
              subst d7
              clear hd
              rw [if_pos (by kernel_rfl)]
              simp only [puts, Act.put, List.setIfInBounds_toArray, List.set_cons_zero, List.set_cons_succ] at hK ⊢
              have c0 := hg.a.c0
              have c1 := hg.a.c1
              go_simp
              exact hK _ _ (Below.refl _ _) rfl hg
            refine Each.cons (fun vs W hl => ?_) ?_
            · apply with37 hl
              clear hl vs
              intro v0 v1 v2 v3 v4 v5 v6 v7 v8 v9 v10 v11 v12 v13 v14 v15 v16 v17 v18 v19 v20 v21 v22 v23 v24 v25 v26 v27 v28 v29 v30 v31 v32 v33 v34 v35 v36 hg hd K hK
              have d7 : v7 = Value.bool true := hd 7 v7 (by kernel_rfl) rfl
              subst d7
              have d8 : v8 = Value.agg #[Value.int IntKind.i64 a, Value.int IntKind.u32 p] := hd 8 v8 (by kernel_rfl) rfl
              subst d8
              clear hd
              rw [if_pos (by kernel_rfl)]
              simp only [puts, Act.put, List.setIfInBounds_toArray, List.set_cons_zero, List.set_cons_succ] at hK ⊢
              go_simp
              exact hK _ _ (below1 _ _) (Ls.one _ _ _) (hg.alloc _)
            refine Each.cons (fun vs W hl => ?_) ?_
            · apply with37 hl
              clear hl vs
              intro v0 v1 v2 v3 v4 v5 v6 v7 v8 v9 v10 v11 v12 v13 v14 v15 v16 v17 v18 v19 v20 v21 v22 v23 v24 v25 v26 v27 v28 v29 v30 v31 v32 v33 v34 v35 v36 hg hd K hK
              have d7 : v7 = Value.bool true := hd 7 v7 (by kernel_rfl) rfl
              subst d7
              have d9 : Ls W v9 [(a, p)] := hd 9 v9 (by kernel_rfl) rfl
              clear hd
              rw [if_pos (by kernel_rfl)]
              simp only [puts, Act.put, List.setIfInBounds_toArray, List.set_cons_zero, List.set_cons_succ] at hK ⊢
              go_simp
              refine (JN9.out _ _ d9).mono ?_
              rintro e w' ⟨rfl, hk⟩
              exact hK _ _ hk rfl (hg.call hk)
            refine Each.cons (fun vs W hl => ?_) ?_
            · apply with37 hl
              clear hl vs
              intro v0 v1 v2 v3 v4 v5 v6 v7 v8 v9 v10 v11 v12 v13 v14 v15 v16 v17 v18 v19 v20 v21 v22 v23 v24 v25 v26 v27 v28 v29 v30 v31 v32 v33 v34 v35 v36 hg hd K hK
              have d7 : v7 = Value.bool true := hd 7 v7 (by kernel_rfl) rfl
              subst d7
              clear hd
              rw [if_pos (by kernel_rfl)]
              simp only [puts, Act.put, List.setIfInBounds_toArray, List.set_cons_zero, List.set_cons_succ] at hK ⊢
              have c0 := hg.a.c0
              have c1 := hg.a.c1
              go_simp
              exact hK _ _ (Below.refl _ _) rfl hg
            refine Each.cons (fun vs W hl => ?_) ?_
            · apply with37 hl
              clear hl vs
              intro v0 v1 v2 v3 v4 v5 v6 v7 v8 v9 v10 v11 v12 v13 v14 v15 v16 v17 v18 v19 v20 v21 v22 v23 v24 v25 v26 v27 v28 v29 v30 v31 v32 v33 v34 v35 v36 hg hd K hK
              have d7 : v7 = Value.bool true := hd 7 v7 (by kernel_rfl) rfl
              subst d7
              have d10 : v10 = Value.agg #[Value.int IntKind.i64 a, Value.int IntKind.u32 p] := hd 10 v10 (by kernel_rfl) rfl
              subst d10
              have d11 : v11 = Value.agg #[Value.int IntKind.i64 a, Value.int IntKind.u32 p] := hd 11 v11 (by kernel_rfl) rfl
              subst d11
              clear hd
              rw [if_pos (by kernel_rfl)]
              simp only [puts, Act.put, List.setIfInBounds_toArray, List.set_cons_zero, List.set_cons_succ] at hK ⊢
              have e24 := eq24r
              go_simp
              exact hK _ _ (Below.refl _ _) rfl hg
            refine Each.cons (fun vs W hl => ?_) ?_
            · apply with37 hl
              clear hl vs
              intro v0 v1 v2 v3 v4 v5 v6 v7 v8 v9 v10 v11 v12 v13 v14 v15 v16 v17 v18 v19 v20 v21 v22 v23 v24 v25 v26 v27 v28 v29 v30 v31 v32 v33 v34 v35 v36 hg hd K hK
              have d7 : v7 = Value.bool true := hd 7 v7 (by kernel_rfl) rfl
              subst d7
              have d12 : v12 = Value.bool true := hd 12 v12 (by kernel_rfl) rfl
              subst d12
              clear hd
              rw [if_pos (by kernel_rfl)]
              simp only [puts, Act.put, List.setIfInBounds_toArray, List.set_cons_zero, List.set_cons_succ] at hK ⊢
              go_simp
              exact hK _ _ (Below.refl _ _) rfl hg
            refine Each.cons (fun vs W hl => ?_) ?_
            · apply with37 hl
              clear hl vs
              intro v0 v1 v2 v3 v4 v5 v6 v7 v8 v9 v10 v11 v12 v13 v14 v15 v16 v17 v18 v19 v20 v21 v22 v23 v24 v25 v26 v27 v28 v29 v30 v31 v32 v33 v34 v35 v36 hg hd K hK
              have d13 : v13 = Value.bool true := hd 13 v13 (by kernel_rfl) rfl
              subst d13
              clear hd
              rw [if_pos (by kernel_rfl)]
              simp only [puts, Act.put, List.setIfInBounds_toArray, List.set_cons_zero, List.set_cons_succ] at hK ⊢
              go_simp
              exact hK _ _ (Below.refl _ _) rfl hg
            refine Each.cons (fun vs W hl => ?_) ?_
            · apply with37 hl
              clear hl vs
              intro v0 v1 v2 v3 v4 v5 v6 v7 v8 v9 v10 v11 v12 v13 v14 v15 v16 v17 v18 v19 v20 v21 v22 v23 v24 v25 v26 v27 v28 v29 v30 v31 v32 v33 v34 v35 v36 hg hd K hK
              have d14 : v14 = Value.bool true := hd 14 v14 (by kernel_rfl) rfl
              subst d14
              clear hd
              rw [if_pos (by kernel_rfl)]
              simp only [puts, Act.put, List.setIfInBounds_toArray, List.set_cons_zero, List.set_cons_succ] at hK ⊢
              go_simp
              refine (JN10.out _ _ (Ls.none _ _ _)).mono ?_
              rintro e w' ⟨rfl, hk⟩
              exact hK _ _ hk rfl (hg.call hk)
            refine Each.cons (fun vs W hl => ?_) ?_
            · apply with37 hl
              clear hl vs
              intro v0 v1 v2 v3 v4 v5 v6 v7 v8 v9 v10 v11 v12 v13 v14 v15 v16 v17 v18 v19 v20 v21 v22 v23 v24 v25 v26 v27 v28 v29 v30 v31 v32 v33 v34 v35 v36 hg hd K hK
              have d14 : v14 = Value.bool true := hd 14 v14 (by kernel_rfl) rfl
              subst d14
              clear hd
              rw [if_pos (by kernel_rfl)]
              simp only [puts, Act.put, List.setIfInBounds_toArray, List.set_cons_zero, List.set_cons_succ] at hK ⊢
              go_simp
              refine (at_any _ _ _).mono ?_
              rintro e w' ⟨rfl, hk⟩
              exact hK _ _ hk rfl (hg.call hk)
            refine Each.cons (fun vs W hl => ?_) ?_
            · apply with37 hl
              clear hl vs
              intro v0 v1 v2 v3 v4 v5 v6 v7 v8 v9 v10 v11 v12 v13 v14 v15 v16 v17 v18 v19 v20 v21 v22 v23 v24 v25 v26 v27 v28 v29 v30 v31 v32 v33 v34 v35 v36 hg hd K hK
              have d14 : v14 = Value.bool true := hd 14 v14 (by kernel_rfl) rfl
              subst d14
              have d15 : v15 = Value.agg #[Value.int IntKind.i64 0, Value.int IntKind.u32 0] := hd 15 v15 (by kernel_rfl) rfl
              subst d15
              have d16 : v16 = Value.agg #[Value.int IntKind.i64 0, Value.int IntKind.u32 0] := hd 16 v16 (by kernel_rfl) rfl
              subst d16
              clear hd
              rw [if_pos (by kernel_rfl)]
              simp only [puts, Act.put, List.setIfInBounds_toArray, List.set_cons_zero, List.set_cons_succ] at hK ⊢
              have e24 := eq24r
              go_simp
              exact hK _ _ (Below.refl _ _) rfl hg
            refine Each.cons (fun vs W hl => ?_) ?_
            · apply with37 hl
              clear hl vs
              intro v0 v1 v2 v3 v4 v5 v6 v7 v8 v9 v10 v11 v12 v13 v14 v15 v16 v17 v18 v19 v20 v21 v22 v23 v24 v25 v26 v27 v28 v29 v30 v31 v32 v33 v34 v35 v36 hg hd K hK
              have d14 : v14 = Value.bool true := hd 14 v14 (by kernel_rfl) rfl
              subst d14
              have d17 : v17 = Value.bool true := hd 17 v17 (by kernel_rfl) rfl
              subst d17
              clear hd
              rw [if_pos (by kernel_rfl)]
              simp only [puts, Act.put, List.setIfInBounds_toArray, List.set_cons_zero, List.set_cons_succ] at hK ⊢
              go_simp
              exact hK _ _ (Below.refl _ _) rfl hg
            refine Each.cons (fun vs W hl => ?_) ?_
            · apply with37 hl
              clear hl vs
              intro v0 v1 v2 v3 v4 v5 v6 v7 v8 v9 v10 v11 v12 v13 v14 v15 v16 v17 v18 v19 v20 v21 v22 v23 v24 v25 v26 v27 v28 v29 v30 v31 v32 v33 v34 v35 v36 hg hd K hK
              have d18 : v18 = Value.bool true := hd 18 v18 (by kernel_rfl) rfl
              subst d18
              clear hd
              rw [if_pos (by kernel_rfl)]
              simp only [puts, Act.put, List.setIfInBounds_toArray, List.set_cons_zero, List.set_cons_succ] at hK ⊢
              go_simp
              exact hK _ _ (Below.refl _ _) rfl hg
            refine Each.cons (fun vs W hl => ?_) ?_
            · apply with37 hl
              clear hl vs
              intro v0 v1 v2 v3 v4 v5 v6 v7 v8 v9 v10 v11 v12 v13 v14 v15 v16 v17 v18 v19 v20 v21 v22 v23 v24 v25 v26 v27 v28 v29 v30 v31 v32 v33 v34 v35 v36 hg hd K hK
              have d19 : v19 = Value.bool true := hd 19 v19 (by kernel_rfl) rfl
              subst d19
              clear hd
              rw [if_pos (by kernel_rfl)]
              simp only [puts, Act.put, List.setIfInBounds_toArray, List.set_cons_zero, List.set_cons_succ] at hK ⊢
              have c0 := hg.a.c0
              have c1 := hg.a.c1
              go_simp
              exact hK _ _ (Below.refl _ _) rfl hg
            refine Each.cons (fun vs W hl => ?_) ?_
            · apply with37 hl
              clear hl vs
              intro v0 v1 v2 v3 v4 v5 v6 v7 v8 v9 v10 v11 v12 v13 v14 v15 v16 v17 v18 v19 v20 v21 v22 v23 v24 v25 v26 v27 v28 v29 v30 v31 v32 v33 v34 v35 v36 hg hd K hK
              have d19 : v19 = Value.bool true := hd 19 v19 (by kernel_rfl) rfl
              subst d19
              clear hd
              rw [if_pos (by kernel_rfl)]
              simp only [puts, Act.put, List.setIfInBounds_toArray, List.set_cons_zero, List.set_cons_succ] at hK ⊢
              have c0 := hg.b.c0
              have c1 := hg.b.c1
              go_simp
              exact hK _ _ (Below.refl _ _) rfl hg
            refine Each.cons (fun vs W hl => ?_) ?_
            · apply with37 hl
              clear hl vs
              intro v0 v1 v2 v3 v4 v5 v6 v7 v8 v9 v10 v11 v12 v13 v14 v15 v16 v17 v18 v19 v20 v21 v22 v23 v24 v25 v26 v27 v28 v29 v30 v31 v32 v33 v34 v35 v36 hg hd K hK
              have d19 : v19 = Value.bool true := hd 19 v19 (by kernel_rfl) rfl
              subst d19
              clear hd
              rw [if_pos (by kernel_rfl)]
              simp only [puts, Act.put, List.setIfInBounds_toArray, List.set_cons_zero, List.set_cons_succ] at hK ⊢
              have c0 := hg.c.c0
              have c1 := hg.c.c1
              go_simp
              exact hK _ _ (Below.refl _ _) rfl hg
            refine Each.cons (fun vs W hl => ?_) ?_
            · apply with37 hl
              clear hl vs
              intro v0 v1 v2 v3 v4 v5 v6 v7 v8 v9 v10 v11 v12 v13 v14 v15 v16 v17 v18 v19 v20 v21 v22 v23 v24 v25 v26 v27 v28 v29 v30 v31 v32 v33 v34 v35 v36 hg hd K hK
              have d19 : v19 = Value.bool true := hd 19 v19 (by kernel_rfl) rfl
              subst d19
              have d21 : v21 = Value.agg #[Value.int IntKind.i64 b, Value.int IntKind.u32 q] := hd 21 v21 (by kernel_rfl) rfl
              subst d21
              have d22 : v22 = Value.agg #[Value.int IntKind.i64 c, Value.int IntKind.u32 r] := hd 22 v22 (by kernel_rfl) rfl
              subst d22
              clear hd
              rw [if_pos (by kernel_rfl)]
              simp only [puts, Act.put, List.setIfInBounds_toArray, List.set_cons_zero, List.set_cons_succ] at hK ⊢
              go_simp
              exact hK _ _ (below1 _ _) (Ls.two _ _ _ _ _) (hg.alloc _)
            refine Each.cons (fun vs W hl => ?_) ?_
            · apply with37 hl
              clear hl vs
              intro v0 v1 v2 v3 v4 v5 v6 v7 v8 v9 v10 v11 v12 v13 v14 v15 v16 v17 v18 v19 v20 v21 v22 v23 v24 v25 v26 v27 v28 v29 v30 v31 v32 v33 v34 v35 v36 hg hd K hK
              have d19 : v19 = Value.bool true := hd 19 v19 (by kernel_rfl) rfl
              subst d19
              have d23 : Ls W v23 [(b, q), (c, r)] := hd 23 v23 (by kernel_rfl) rfl
              clear hd
              rw [if_pos (by kernel_rfl)]
              simp only [puts, Act.put, List.setIfInBounds_toArray, List.set_cons_zero, List.set_cons_succ] at hK ⊢
              go_simp
              refine (JN5.out _ _ d23).mono ?_
              rintro e w' ⟨rfl, hk⟩
              exact hK _ _ hk rfl (hg.call hk)
            refine Each.cons (fun vs W hl => ?_) ?_
            · apply with37 hl
              clear hl vs
              intro v0 v1 v2 v3 v4 v5 v6 v7 v8 v9 v10 v11 v12 v13 v14 v15 v16 v17 v18 v19 v20 v21 v22 v23 v24 v25 v26 v27 v28 v29 v30 v31 v32 v33 v34 v35 v36 hg hd K hK
              have d19 : v19 = Value.bool true := hd 19 v19 (by kernel_rfl) rfl
              subst d19
              have d20 : v20 = Value.agg #[Value.int IntKind.i64 a, Value.int IntKind.u32 p] := hd 20 v20 (by kernel_rfl) rfl
              subst d20
              have d24 : v24 = Value.agg #[Value.int IntKind.i64 jbcx, Value.int IntKind.u32 jbcp] := hd 24 v24 (by kernel_rfl) rfl
              subst d24
              clear hd
              rw [if_pos (by kernel_rfl)]
              simp only [puts, Act.put, List.setIfInBounds_toArray, List.set_cons_zero, List.set_cons_succ] at hK ⊢
              go_simp
              refine (MT7.out _).mono ?_
              rintro e w' ⟨rfl, hk⟩
              exact hK _ _ hk rfl (hg.call hk)
            refine Each.cons (fun vs W hl => ?_) ?_
            · apply with37 hl
              clear hl vs
              intro v0 v1 v2 v3 v4 v5 v6 v7 v8 v9 v10 v11 v12 v13 v14 v15 v16 v17 v18 v19 v20 v21 v22 v23 v24 v25 v26 v27 v28 v29 v30 v31 v32 v33 v34 v35 v36 hg hd K hK
              have d19 : v19 = Value.bool true := hd 19 v19 (by kernel_rfl) rfl
              subst d19
              clear hd
              rw [if_pos (by kernel_rfl)]
              simp only [puts, Act.put, List.setIfInBounds_toArray, List.set_cons_zero, List.set_cons_succ] at hK ⊢
              have c0 := hg.a.c0
              have c1 := hg.a.c1
              go_simp
              exact hK _ _ (Below.refl _ _) rfl hg
            refine Each.cons (fun vs W hl => ?_) ?_
            · apply with37 hl
              clear hl vs
              intro v0 v1 v2 v3 v4 v5 v6 v7 v8 v9 v10 v11 v12 v13 v14 v15 v16 v17 v18 v19 v20 v21 v22 v23 v24 v25 v26 v27 v28 v29 v30 v31 v32 v33 v34 v35 v36 hg hd K hK
              have d19 : v19 = Value.bool true := hd 19 v19 (by kernel_rfl) rfl
              subst d19
              clear hd
              rw [if_pos (by kernel_rfl)]
              simp only [puts, Act.put, List.setIfInBounds_toArray, List.set_cons_zero, List.set_cons_succ] at hK ⊢
              have c0 := hg.b.c0
              have c1 := hg.b.c1
              go_simp
              exact hK _ _ (Below.refl _ _) rfl hg
            refine Each.cons (fun vs W hl => ?_) ?_
            · apply with37 hl
              clear hl vs
              intro v0 v1 v2 v3 v4 v5 v6 v7 v8 v9 v10 v11 v12 v13 v14 v15 v16 v17 v18 v19 v20 v21 v22 v23 v24 v25 v26 v27 v28 v29 v30 v31 v32 v33 v34 v35 v36 hg hd K hK
              have d19 : v19 = Value.bool true := hd 19 v19 (by kernel_rfl) rfl
              subst d19
              have d26 : v26 = Value.agg #[Value.int IntKind.i64 a, Value.int IntKind.u32 p] := hd 26 v26 (by kernel_rfl) rfl
              subst d26
              have d27 : v27 = Value.agg #[Value.int IntKind.i64 b, Value.int IntKind.u32 q] := hd 27 v27 (by kernel_rfl) rfl
              subst d27
              clear hd
              rw [if_pos (by kernel_rfl)]
              simp only [puts, Act.put, List.setIfInBounds_toArray, List.set_cons_zero, List.set_cons_succ] at hK ⊢
              go_simp
              refine (MT0.out _).mono ?_
              rintro e w' ⟨rfl, hk⟩
              exact hK _ _ hk rfl (hg.call hk)
            refine Each.cons (fun vs W hl => ?_) ?_
            · apply with37 hl
              clear hl vs
              intro v0 v1 v2 v3 v4 v5 v6 v7 v8 v9 v10 v11 v12 v13 v14 v15 v16 v17 v18 v19 v20 v21 v22 v23 v24 v25 v26 v27 v28 v29 v30 v31 v32 v33 v34 v35 v36 hg hd K hK
              have d19 : v19 = Value.bool true := hd 19 v19 (by kernel_rfl) rfl
              subst d19
              clear hd
              rw [if_pos (by kernel_rfl)]
              simp only [puts, Act.put, List.setIfInBounds_toArray, List.set_cons_zero, List.set_cons_succ] at hK ⊢
              have c0 := hg.a.c0
              have c1 := hg.a.c1
              go_simp
              exact hK _ _ (Below.refl _ _) rfl hg
            refine Each.cons (fun vs W hl => ?_) ?_
            · apply with37 hl
              clear hl vs
              intro v0 v1 v2 v3 v4 v5 v6 v7 v8 v9 v10 v11 v12 v13 v14 v15 v16 v17 v18 v19 v20 v21 v22 v23 v24 v25 v26 v27 v28 v29 v30 v31 v32 v33 v34 v35 v36 hg hd K hK
              have d19 : v19 = Value.bool true := hd 19 v19 (by kernel_rfl) rfl
              subst d19
              clear hd
              rw [if_pos (by kernel_rfl)]
              simp only [puts, Act.put, List.setIfInBounds_toArray, List.set_cons_zero, List.set_cons_succ] at hK ⊢
              have c0 := hg.c.c0
              have c1 := hg.c.c1
              go_simp
              exact hK _ _ (Below.refl _ _) rfl hg
            refine Each.cons (fun vs W hl => ?_) ?_
            · apply with37 hl
              clear hl vs
              intro v0 v1 v2 v3 v4 v5 v6 v7 v8 v9 v10 v11 v12 v13 v14 v15 v16 v17 v18 v19 v20 v21 v22 v23 v24 v25 v26 v27 v28 v29 v30 v31 v32 v33 v34 v35 v36 hg hd K hK
              have d19 : v19 = Value.bool true := hd 19 v19 (by kernel_rfl) rfl
              subst d19
              have d29 : v29 = Value.agg #[Value.int IntKind.i64 a, Value.int IntKind.u32 p] := hd 29 v29 (by kernel_rfl) rfl
              subst d29
              have d30 : v30 = Value.agg #[Value.int IntKind.i64 c, Value.int IntKind.u32 r] := hd 30 v30 (by kernel_rfl) rfl
              subst d30
              clear hd
              rw [if_pos (by kernel_rfl)]
              simp only [puts, Act.put, List.setIfInBounds_toArray, List.set_cons_zero, List.set_cons_succ] at hK ⊢
              go_simp
              refine (MT8.out _).mono ?_
              rintro e w' ⟨rfl, hk⟩
              exact hK _ _ hk rfl (hg.call hk)
            refine Each.cons (fun vs W hl => ?_) ?_
            · apply with37 hl
              clear hl vs
              intro v0 v1 v2 v3 v4 v5 v6 v7 v8 v9 v10 v11 v12 v13 v14 v15 v16 v17 v18 v19 v20 v21 v22 v23 v24 v25 v26 v27 v28 v29 v30 v31 v32 v33 v34 v35 v36 hg hd K hK
              have d19 : v19 = Value.bool true := hd 19 v19 (by kernel_rfl) rfl
              subst d19
              have d28 : v28 = Value.agg #[Value.int IntKind.i64 mabx, Value.int IntKind.u32 mabp] := hd 28 v28 (by kernel_rfl) rfl
              subst d28
              have d31 : v31 = Value.agg #[Value.int IntKind.i64 macx, Value.int IntKind.u32 macp] := hd 31 v31 (by kernel_rfl) rfl
              subst d31
              clear hd
              rw [if_pos (by kernel_rfl)]
              simp only [puts, Act.put, List.setIfInBounds_toArray, List.set_cons_zero, List.set_cons_succ] at hK ⊢
              go_simp
              exact hK _ _ (below1 _ _) (Ls.two _ _ _ _ _) (hg.alloc _)
            refine Each.cons (fun vs W hl => ?_) ?_
            · apply with37 hl
              clear hl vs
              intro v0 v1 v2 v3 v4 v5 v6 v7 v8 v9 v10 v11 v12 v13 v14 v15 v16 v17 v18 v19 v20 v21 v22 v23 v24 v25 v26 v27 v28 v29 v30 v31 v32 v33 v34 v35 v36 hg hd K hK
              have d19 : v19 = Value.bool true := hd 19 v19 (by kernel_rfl) rfl
              subst d19
              have d32 : Ls W v32 [(mabx, mabp), (macx, macp)] := hd 32 v32 (by kernel_rfl) rfl
              clear hd
              rw [if_pos (by kernel_rfl)]
              simp only [puts, Act.put, List.setIfInBounds_toArray, List.set_cons_zero, List.set_cons_succ] at hK ⊢
              go_simp
              refine (JN11.out _ _ d32).mono ?_
              rintro e w' ⟨rfl, hk⟩
              exact hK _ _ hk rfl (hg.call hk)
            refine Each.cons (fun vs W hl => ?_) ?_
            · apply with37 hl
              clear hl vs
              intro v0 v1 v2 v3 v4 v5 v6 v7 v8 v9 v10 v11 v12 v13 v14 v15 v16 v17 v18 v19 v20 v21 v22 v23 v24 v25 v26 v27 v28 v29 v30 v31 v32 v33 v34 v35 v36 hg hd K hK
              have d19 : v19 = Value.bool true := hd 19 v19 (by kernel_rfl) rfl
              subst d19
              have d25 : v25 = Value.agg #[Value.int IntKind.i64 ddx, Value.int IntKind.u32 ddp] := hd 25 v25 (by kernel_rfl) rfl
              subst d25
              have d33 : v33 = Value.agg #[Value.int IntKind.i64 ddx, Value.int IntKind.u32 ddp] := hd 33 v33 (by kernel_rfl) rfl
              subst d33
              clear hd
              rw [if_pos (by kernel_rfl)]
              simp only [puts, Act.put, List.setIfInBounds_toArray, List.set_cons_zero, List.set_cons_succ] at hK ⊢
              have e24 := eq24r
              go_simp
              exact hK _ _ (Below.refl _ _) rfl hg
            refine Each.cons (fun vs W hl => ?_) ?_
            · apply with37 hl
              clear hl vs
              intro v0 v1 v2 v3 v4 v5 v6 v7 v8 v9 v10 v11 v12 v13 v14 v15 v16 v17 v18 v19 v20 v21 v22 v23 v24 v25 v26 v27 v28 v29 v30 v31 v32 v33 v34 v35 v36 hg hd K hK
              have d19 : v19 = Value.bool true := hd 19 v19 (by kernel_rfl) rfl
              subst d19
              have d34 : v34 = Value.bool true := hd 34 v34 (by kernel_rfl) rfl
              subst d34
              clear hd
              rw [if_pos (by kernel_rfl)]
              simp only [puts, Act.put, List.setIfInBounds_toArray, List.set_cons_zero, List.set_cons_succ] at hK ⊢
              go_simp
              exact hK _ _ (Below.refl _ _) rfl hg
            refine Each.cons (fun vs W hl => ?_) ?_
            · apply with37 hl
              clear hl vs
              intro v0 v1 v2 v3 v4 v5 v6 v7 v8 v9 v10 v11 v12 v13 v14 v15 v16 v17 v18 v19 v20 v21 v22 v23 v24 v25 v26 v27 v28 v29 v30 v31 v32 v33 v34 v35 v36 hg hd K hK
              have d35 : v35 = Value.bool true := hd 35 v35 (by kernel_rfl) rfl
              subst d35
              clear hd
              rw [if_pos (by kernel_rfl)]
              simp only [puts, Act.put, List.setIfInBounds_toArray, List.set_cons_zero, List.set_cons_succ] at hK ⊢
              go_simp
              exact hK _ _ (Below.refl _ _) rfl hg
            exact Each.nil
          · intro vs W hl
            apply with37 hl
            clear hl vs
            intro v0 v1 v2 v3 v4 v5 v6 v7 v8 v9 v10 v11 v12 v13 v14 v15 v16 v17 v18 v19 v20 v21 v22 v23 v24 v25 v26 v27 v28 v29 v30 v31 v32 v33 v34 v35 v36 hg hall
            have d0 : v0 = Value.bool true := hall 0 v0 rfl
            subst d0
            have d1 : v1 = Value.bool true := hall 1 v1 rfl
            subst d1
            have d2 : v2 = Value.bool true := hall 2 v2 rfl
            subst d2
            have d3 : v3 = Value.bool true := hall 3 v3 rfl
            subst d3
            have d4 : v4 = Value.bool true := hall 4 v4 rfl
            subst d4
            have d5 : v5 = Value.bool true := hall 5 v5 rfl
            subst d5
            have d6 : v6 = Value.bool true := hall 6 v6 rfl
            subst d6
            have d7 : v7 = Value.bool true := hall 7 v7 rfl
            subst d7
            have d8 : v8 = Value.agg #[Value.int IntKind.i64 a, Value.int IntKind.u32 p] := hall 8 v8 rfl
            subst d8
            have d9 : Ls W v9 [(a, p)] := hall 9 v9 rfl
            have d10 : v10 = Value.agg #[Value.int IntKind.i64 a, Value.int IntKind.u32 p] := hall 10 v10 rfl
            subst d10
            have d11 : v11 = Value.agg #[Value.int IntKind.i64 a, Value.int IntKind.u32 p] := hall 11 v11 rfl
            subst d11
            have d12 : v12 = Value.bool true := hall 12 v12 rfl
            subst d12
            have d13 : v13 = Value.bool true := hall 13 v13 rfl
            subst d13
            have d14 : v14 = Value.bool true := hall 14 v14 rfl
            subst d14
            have d15 : v15 = Value.agg #[Value.int IntKind.i64 0, Value.int IntKind.u32 0] := hall 15 v15 rfl
            subst d15
            have d16 : v16 = Value.agg #[Value.int IntKind.i64 0, Value.int IntKind.u32 0] := hall 16 v16 rfl
            subst d16
            have d17 : v17 = Value.bool true := hall 17 v17 rfl
            subst d17
            have d18 : v18 = Value.bool true := hall 18 v18 rfl
            subst d18
            have d19 : v19 = Value.bool true := hall 19 v19 rfl
            subst d19
            have d20 : v20 = Value.agg #[Value.int IntKind.i64 a, Value.int IntKind.u32 p] := hall 20 v20 rfl
            subst d20
            have d21 : v21 = Value.agg #[Value.int IntKind.i64 b, Value.int IntKind.u32 q] := hall 21 v21 rfl
            subst d21
            have d22 : v22 = Value.agg #[Value.int IntKind.i64 c, Value.int IntKind.u32 r] := hall 22 v22 rfl
            subst d22
            have d23 : Ls W v23 [(b, q), (c, r)] := hall 23 v23 rfl
            have d24 : v24 = Value.agg #[Value.int IntKind.i64 jbcx, Value.int IntKind.u32 jbcp] := hall 24 v24 rfl
            subst d24
            have d25 : v25 = Value.agg #[Value.int IntKind.i64 ddx, Value.int IntKind.u32 ddp] := hall 25 v25 rfl
            subst d25
            have d26 : v26 = Value.agg #[Value.int IntKind.i64 a, Value.int IntKind.u32 p] := hall 26 v26 rfl
            subst d26
            have d27 : v27 = Value.agg #[Value.int IntKind.i64 b, Value.int IntKind.u32 q] := hall 27 v27 rfl
            subst d27
            have d28 : v28 = Value.agg #[Value.int IntKind.i64 mabx, Value.int IntKind.u32 mabp] := hall 28 v28 rfl
            subst d28
            have d29 : v29 = Value.agg #[Value.int IntKind.i64 a, Value.int IntKind.u32 p] := hall 29 v29 rfl
            subst d29
            have d30 : v30 = Value.agg #[Value.int IntKind.i64 c, Value.int IntKind.u32 r] := hall 30 v30 rfl
            subst d30
            have d31 : v31 = Value.agg #[Value.int IntKind.i64 macx, Value.int IntKind.u32 macp] := hall 31 v31 rfl
            subst d31
            have d32 : Ls W v32 [(mabx, mabp), (macx, macp)] := hall 32 v32 rfl
            have d33 : v33 = Value.agg #[Value.int IntKind.i64 ddx, Value.int IntKind.u32 ddp] := hall 33 v33 rfl
            subst d33
            have d34 : v34 = Value.bool true := hall 34 v34 rfl
            subst d34
            have d35 : v35 = Value.bool true := hall 35 v35 rfl
            subst d35
            have d36 : v36 = Value.bool true := hall 36 v36 rfl
            subst d36
            clear hall
            simp only [puts, Act.put, List.setIfInBounds_toArray, List.set_cons_zero, List.set_cons_succ, List.take_succ_cons, List.take_zero, List.drop_succ_cons, List.drop_zero]
            have HE := hd hg
            clear hg A6
            clear d9 d23 d32
            go_wp2_with fail
            go_ret
            exact VEnd.mk HE.out.bel

end Go.Proofs.Ytcgimbomandjfaa
