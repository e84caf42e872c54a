/- VeilBounds: the law's walk. -/
import Derived.Test.YtcgimbomandjfaaL5
import Derived.Test.YtcgimbomandjfaaVo
namespace Go.Proofs.Ytcgimbomandjfaa
open Go.RowKit
set_option linter.unusedVariables false

set_option maxRecDepth 100000 in
set_option maxHeartbeats 8000000 in
theorem bounds_walk (x p y q z r a b c jx jp mx mp : Int) (fjc fac fbc fcm fca fcb fab : Bool) (w : World)
    (NX : Hid (∀ w, Calls Try.prog 32 #[.agg #[.int .i64 x, .int .u32 p]] w fun e w' => VEnd w (.agg #[.int .i64 a, .int .u32 p]) e w'))
    (NY : Hid (∀ w, Calls Try.prog 32 #[.agg #[.int .i64 y, .int .u32 q]] w fun e w' => VEnd w (.agg #[.int .i64 b, .int .u32 q]) e w'))
    (NZ : Hid (∀ w, Calls Try.prog 32 #[.agg #[.int .i64 z, .int .u32 r]] w fun e w' => VEnd w (.agg #[.int .i64 c, .int .u32 r]) e w'))
    (JN : Hid (∀ w v, Ls w v [(a, p), (b, q)] → Calls Try.prog 13 #[v] w fun e w' => VEnd w (.agg #[.int .i64 jx, .int .u32 jp]) e w'))
    (MT : Hid (∀ w, Calls Try.prog 15 #[.agg #[.int .i64 a, .int .u32 p], .agg #[.int .i64 b, .int .u32 q]] w fun e w' => VEnd w (.agg #[.int .i64 mx, .int .u32 mp]) e w'))
    (FAJ : Hid (∀ w, Calls Try.prog 11 #[.agg #[.int .i64 a, .int .u32 p], .agg #[.int .i64 jx, .int .u32 jp]] w fun e w' => VEnd w (.bool true) e w'))
    (FBJ : Hid (∀ w, Calls Try.prog 11 #[.agg #[.int .i64 b, .int .u32 q], .agg #[.int .i64 jx, .int .u32 jp]] w fun e w' => VEnd w (.bool true) e w'))
    (FJC : Hid (∀ w, Calls Try.prog 11 #[.agg #[.int .i64 jx, .int .u32 jp], .agg #[.int .i64 c, .int .u32 r]] w fun e w' => VEnd w (.bool fjc) e w'))
    (FAC : Hid (∀ w, Calls Try.prog 11 #[.agg #[.int .i64 a, .int .u32 p], .agg #[.int .i64 c, .int .u32 r]] w fun e w' => VEnd w (.bool fac) e w'))
    (FBC : Hid (∀ w, Calls Try.prog 11 #[.agg #[.int .i64 b, .int .u32 q], .agg #[.int .i64 c, .int .u32 r]] w fun e w' => VEnd w (.bool fbc) e w'))
    (FMA : Hid (∀ w, Calls Try.prog 11 #[.agg #[.int .i64 mx, .int .u32 mp], .agg #[.int .i64 a, .int .u32 p]] w fun e w' => VEnd w (.bool true) e w'))
    (FMB : Hid (∀ w, Calls Try.prog 11 #[.agg #[.int .i64 mx, .int .u32 mp], .agg #[.int .i64 b, .int .u32 q]] w fun e w' => VEnd w (.bool true) e w'))
    (FCM : Hid (∀ w, Calls Try.prog 11 #[.agg #[.int .i64 c, .int .u32 r], .agg #[.int .i64 mx, .int .u32 mp]] w fun e w' => VEnd w (.bool fcm) e w'))
    (FCA : Hid (∀ w, Calls Try.prog 11 #[.agg #[.int .i64 c, .int .u32 r], .agg #[.int .i64 a, .int .u32 p]] w fun e w' => VEnd w (.bool fca) e w'))
    (FCB : Hid (∀ w, Calls Try.prog 11 #[.agg #[.int .i64 c, .int .u32 r], .agg #[.int .i64 b, .int .u32 q]] w fun e w' => VEnd w (.bool fcb) e w'))
    (FAB : Hid (∀ w, Calls Try.prog 11 #[.agg #[.int .i64 a, .int .u32 p], .agg #[.int .i64 b, .int .u32 q]] w fun e w' => VEnd w (.bool fab) e w'))
    (EJB : Hid (∀ w, (Op.equalIn 10000 24 (.agg #[.int .i64 jx, .int .u32 jp]) (.agg #[.int .i64 b, .int .u32 q])).run Try.prog w = .ok fab w))
    (EMA : Hid (∀ w, (Op.equalIn 10000 24 (.agg #[.int .i64 mx, .int .u32 mp]) (.agg #[.int .i64 a, .int .u32 p])).run Try.prog w = .ok fab w))
    (LU : Hid (fjc = (fac && fbc))) (LD : Hid (fcm = (fca && fcb))) :
    Calls Try.prog 6 #[.agg #[.int .i64 x, .int .u32 p], .agg #[.int .i64 y, .int .u32 q], .agg #[.int .i64 z, .int .u32 r]] w fun e w' => VEnd w (.bool true) e w' := by
  go_enter Try.func6, Try.ntmps6
  go_wp2_with fail
  have A := L3.first w x p y q z r
  generalize hN : w.heap.size = N at *
  have HN := hd hN
  clear hN
  generalize ((w.alloc (Obj.cells #[Value.int IntKind.i64 x, Value.int IntKind.u32 p] 24)).alloc (Obj.cells #[Value.int IntKind.i64 y, Value.int IntKind.u32 q] 24)).alloc (Obj.cells #[Value.int IntKind.i64 z, Value.int IntKind.u32 r] 24) = w1 at *
  refine (works_true w1).mono ?_
  rintro e w2 ⟨rfl, hk⟩
  have A2 := A.call hk
  clear A hk
  go_wp2_with fail
  refine wp_region_each 6 (fun W W' => Below W.heap.size W W') (fun i v W => match i with | 0 => v = Value.agg #[Value.int IntKind.i64 x, Value.int IntKind.u32 p] | 1 => v = Value.agg #[Value.int IntKind.i64 a, Value.int IntKind.u32 p] | 2 => v = Value.agg #[Value.int IntKind.i64 y, Value.int IntKind.u32 q] | 3 => v = Value.agg #[Value.int IntKind.i64 b, Value.int IntKind.u32 q] | 4 => v = Value.agg #[Value.int IntKind.i64 z, Value.int IntKind.u32 r] | 5 => v = Value.agg #[Value.int IntKind.i64 c, Value.int IntKind.u32 r] | _ => True) (fun _ W => L3 w N x p y q z r W) (by kernel_rfl) (by kernel_rfl) (fun _ _ _ _ _ h => h) (A2.drew) ?_ ?_
  · simp only [List.take_succ_cons, List.take_zero]
    refine Each.cons (fun vs W hl => ?_) ?_
    · apply with6 hl
      clear hl vs
      intro v0 v1 v2 v3 v4 v5 hg hd K hK
      clear hd
      rw [if_pos (by kernel_rfl)]
      simp only [puts, Act.put, List.setIfInBounds_toArray, List.set_cons_zero, List.set_cons_succ] at hK ⊢
      have c0 := hg.a.c0
      have c1 := hg.a.c1
      go_simp
      exact hK _ _ (Below.refl _ _) rfl hg
    refine Each.cons (fun vs W hl => ?_) ?_
    · apply with6 hl
      clear hl vs
      intro v0 v1 v2 v3 v4 v5 hg hd K hK
      have d0 : v0 = Value.agg #[Value.int IntKind.i64 x, Value.int IntKind.u32 p] := hd 0 v0 (by kernel_rfl) rfl
      subst d0
      clear hd
      rw [if_pos (by kernel_rfl)]
      simp only [puts, Act.put, List.setIfInBounds_toArray, List.set_cons_zero, List.set_cons_succ] at hK ⊢
      go_simp
      refine (NX.out _).mono ?_
      rintro e w' ⟨rfl, hk⟩
      exact hK _ _ hk rfl (hg.call hk)
    refine Each.cons (fun vs W hl => ?_) ?_
    · apply with6 hl
      clear hl vs
      intro v0 v1 v2 v3 v4 v5 hg hd K hK
      clear hd
      rw [if_pos (by kernel_rfl)]
      simp only [puts, Act.put, List.setIfInBounds_toArray, List.set_cons_zero, List.set_cons_succ] at hK ⊢
      have c0 := hg.b.c0
      have c1 := hg.b.c1
      go_simp
      exact hK _ _ (Below.refl _ _) rfl hg
    refine Each.cons (fun vs W hl => ?_) ?_
    · apply with6 hl
      clear hl vs
      intro v0 v1 v2 v3 v4 v5 hg hd K hK
      have d2 : v2 = Value.agg #[Value.int IntKind.i64 y, Value.int IntKind.u32 q] := hd 2 v2 (by kernel_rfl) rfl
      subst d2
      clear hd
      rw [if_pos (by kernel_rfl)]
      simp only [puts, Act.put, List.setIfInBounds_toArray, List.set_cons_zero, List.set_cons_succ] at hK ⊢
      go_simp
      refine (NY.out _).mono ?_
      rintro e w' ⟨rfl, hk⟩
      exact hK _ _ hk rfl (hg.call hk)
    refine Each.cons (fun vs W hl => ?_) ?_
    · apply with6 hl
      clear hl vs
      intro v0 v1 v2 v3 v4 v5 hg hd K hK
      clear hd
      rw [if_pos (by kernel_rfl)]
      simp only [puts, Act.put, List.setIfInBounds_toArray, List.set_cons_zero, List.set_cons_succ] at hK ⊢
      have c0 := hg.c.c0
      have c1 := hg.c.c1
      go_simp
      exact hK _ _ (Below.refl _ _) rfl hg
    refine Each.cons (fun vs W hl => ?_) ?_
    · apply with6 hl
      clear hl vs
      intro v0 v1 v2 v3 v4 v5 hg hd K hK
      have d4 : v4 = Value.agg #[Value.int IntKind.i64 z, Value.int IntKind.u32 r] := hd 4 v4 (by kernel_rfl) rfl
      subst d4
      clear hd
      rw [if_pos (by kernel_rfl)]
      simp only [puts, Act.put, List.setIfInBounds_toArray, List.set_cons_zero, List.set_cons_succ] at hK ⊢
      go_simp
      refine (NZ.out _).mono ?_
      rintro e w' ⟨rfl, hk⟩
      exact hK _ _ hk rfl (hg.call hk)
    exact Each.nil
  · intro vs W hl
    apply with6 hl
    clear hl vs
    intro v0 v1 v2 v3 v4 v5 hg hall
    have d0 : v0 = Value.agg #[Value.int IntKind.i64 x, Value.int IntKind.u32 p] := hall 0 v0 rfl
    subst d0
    have d1 : v1 = Value.agg #[Value.int IntKind.i64 a, Value.int IntKind.u32 p] := hall 1 v1 rfl
    subst d1
    have d2 : v2 = Value.agg #[Value.int IntKind.i64 y, Value.int IntKind.u32 q] := hall 2 v2 rfl
    subst d2
    have d3 : v3 = Value.agg #[Value.int IntKind.i64 b, Value.int IntKind.u32 q] := hall 3 v3 rfl
    subst d3
    have d4 : v4 = Value.agg #[Value.int IntKind.i64 z, Value.int IntKind.u32 r] := hall 4 v4 rfl
    subst d4
    have d5 : v5 = Value.agg #[Value.int IntKind.i64 c, Value.int IntKind.u32 r] := hall 5 v5 rfl
    subst d5
    clear hall
    simp only [puts, Act.put, List.setIfInBounds_toArray, List.set_cons_zero, List.set_cons_succ, List.take_succ_cons, List.take_zero, List.drop_succ_cons, List.drop_zero]
    have f0 := hg.a.fz 0
    have f1 := hg.a.fz 1
    have f2 := hg.b.fz 0
    have f3 := hg.b.fz 1
    have f4 := hg.c.fz 0
    have f5 := hg.c.fz 1
    have c0 := hg.a.c0
    have c1 := hg.a.c1
    have c2 := hg.b.c0
    have c3 := hg.b.c1
    have c4 := hg.c.c0
    have c5 := hg.c.c1
    go_wp2_with fail
    have A3 := ((hg.setA a p).setB b q).setC c r
    clear f0 f1 f2 f3 f4 f5 c0 c1 c2 c3 c4 c5 hg A2
    generalize (((((W.setCell ⟨N, 0, none⟩ (.int .i64 a)).setCell ⟨N, 1, none⟩ (.int .u32 p)).setCell ⟨N + 1, 0, none⟩ (.int .i64 b)).setCell ⟨N + 1, 1, none⟩ (.int .u32 q)).setCell ⟨N + 2, 0, none⟩ (.int .i64 c)).setCell ⟨N + 2, 1, none⟩ (.int .u32 r) = w3 at *
    clear W
    refine wp_region_each 9 (fun W W' => Below W.heap.size W W') (fun i v W => match i with | 0 => v = Value.agg #[Value.int IntKind.i64 a, Value.int IntKind.u32 p] | 1 => v = Value.agg #[Value.int IntKind.i64 b, Value.int IntKind.u32 q] | 2 => Ls W v [(a, p), (b, q)] | 3 => v = Value.agg #[Value.int IntKind.i64 jx, Value.int IntKind.u32 jp] | 4 => v = Value.agg #[Value.int IntKind.i64 a, Value.int IntKind.u32 p] | 5 => v = Value.agg #[Value.int IntKind.i64 b, Value.int IntKind.u32 q] | 6 => v = Value.agg #[Value.int IntKind.i64 mx, Value.int IntKind.u32 mp] | 7 => ∃ g, v = Value.pointer (some ⟨g, 0, none⟩) ∧ Lb W g 0 0 ∧ N + 2 < g | 8 => ∃ g, v = Value.pointer (some ⟨g, 0, none⟩) ∧ Lb W g 0 0 ∧ N + 2 < g | _ => True) (fun vs W => L3 w N a p b q c r W ∧ Two W (vs.getD 7 undef) (vs.getD 8 undef)) (by kernel_rfl) (by kernel_rfl) (fun j v W W' hE h => by
          match j with
          | 0 => exact h
          | 1 => exact h
          | 2 => exact Ls.keep h hE
          | 3 => exact h
          | 4 => exact h
          | 5 => exact h
          | 6 => exact h
          | 7 => obtain ⟨g, h1, h2, h3⟩ := h; exact ⟨g, h1, h2.keep hE, h3⟩
          | 8 => obtain ⟨g, h1, h2, h3⟩ := h; exact ⟨g, h1, h2.keep hE, h3⟩
          | _ + 9 => trivial) (⟨A3.drew, Two.start _⟩) ?_ ?_
    · simp only [List.take_succ_cons, List.take_zero]
      refine Each.cons (fun vs W hl => ?_) ?_
      · apply with9 hl
        clear hl vs
        intro v0 v1 v2 v3 v4 v5 v6 v7 v8 hg hd K hK
        clear hd
        rw [if_pos (by kernel_rfl)]
        simp only [puts, Act.put, List.setIfInBounds_toArray, List.set_cons_zero, List.set_cons_succ] at hK ⊢
        have c0 := hg.1.a.c0
        have c1 := hg.1.a.c1
        go_simp
        exact hK _ _ (Below.refl _ _) rfl ⟨hg.1, hg.2⟩
      refine Each.cons (fun vs W hl => ?_) ?_
      · apply with9 hl
        clear hl vs
        intro v0 v1 v2 v3 v4 v5 v6 v7 v8 hg hd K hK
        clear hd
        rw [if_pos (by kernel_rfl)]
        simp only [puts, Act.put, List.setIfInBounds_toArray, List.set_cons_zero, List.set_cons_succ] at hK ⊢
        have c0 := hg.1.b.c0
        have c1 := hg.1.b.c1
        go_simp
        exact hK _ _ (Below.refl _ _) rfl ⟨hg.1, hg.2⟩
      refine Each.cons (fun vs W hl => ?_) ?_
      · apply with9 hl
        clear hl vs
        intro v0 v1 v2 v3 v4 v5 v6 v7 v8 hg hd K hK
        have d0 : v0 = Value.agg #[Value.int IntKind.i64 a, Value.int IntKind.u32 p] := hd 0 v0 (by kernel_rfl) rfl
        subst d0
        have d1 : v1 = Value.agg #[Value.int IntKind.i64 b, Value.int IntKind.u32 q] := hd 1 v1 (by kernel_rfl) rfl
        subst d1
        clear hd
        rw [if_pos (by kernel_rfl)]
        simp only [puts, Act.put, List.setIfInBounds_toArray, List.set_cons_zero, List.set_cons_succ] at hK ⊢
        go_simp
        exact hK _ _ (below1 _ _) (Ls.two _ _ _ _ _) ⟨hg.1.alloc _, hg.2.keep (below1 _ _)⟩
      refine Each.cons (fun vs W hl => ?_) ?_
      · apply with9 hl
        clear hl vs
        intro v0 v1 v2 v3 v4 v5 v6 v7 v8 hg hd K hK
        have d2 : Ls W v2 [(a, p), (b, q)] := hd 2 v2 (by kernel_rfl) rfl
        clear hd
        rw [if_pos (by kernel_rfl)]
        simp only [puts, Act.put, List.setIfInBounds_toArray, List.set_cons_zero, List.set_cons_succ] at hK ⊢
        go_simp
        refine (JN.out _ _ d2).mono ?_
        rintro e w' ⟨rfl, hk⟩
        exact hK _ _ hk rfl (⟨hg.1.call hk, hg.2.keep hk⟩)
      refine Each.cons (fun vs W hl => ?_) ?_
      · apply with9 hl
        clear hl vs
        intro v0 v1 v2 v3 v4 v5 v6 v7 v8 hg hd K hK
        clear hd
        rw [if_pos (by kernel_rfl)]
        simp only [puts, Act.put, List.setIfInBounds_toArray, List.set_cons_zero, List.set_cons_succ] at hK ⊢
        have c0 := hg.1.a.c0
        have c1 := hg.1.a.c1
        go_simp
        exact hK _ _ (Below.refl _ _) rfl ⟨hg.1, hg.2⟩
      refine Each.cons (fun vs W hl => ?_) ?_
      · apply with9 hl
        clear hl vs
        intro v0 v1 v2 v3 v4 v5 v6 v7 v8 hg hd K hK
        clear hd
        rw [if_pos (by kernel_rfl)]
        simp only [puts, Act.put, List.setIfInBounds_toArray, List.set_cons_zero, List.set_cons_succ] at hK ⊢
        have c0 := hg.1.b.c0
        have c1 := hg.1.b.c1
        go_simp
        exact hK _ _ (Below.refl _ _) rfl ⟨hg.1, hg.2⟩
      refine Each.cons (fun vs W hl => ?_) ?_
      · apply with9 hl
        clear hl vs
        intro v0 v1 v2 v3 v4 v5 v6 v7 v8 hg hd K hK
        have d4 : v4 = Value.agg #[Value.int IntKind.i64 a, Value.int IntKind.u32 p] := hd 4 v4 (by kernel_rfl) rfl
        subst d4
        have d5 : v5 = Value.agg #[Value.int IntKind.i64 b, Value.int IntKind.u32 q] := hd 5 v5 (by kernel_rfl) rfl
        subst d5
        clear hd
        rw [if_pos (by kernel_rfl)]
        simp only [puts, Act.put, List.setIfInBounds_toArray, List.set_cons_zero, List.set_cons_succ] at hK ⊢
        go_simp
        refine (MT.out _).mono ?_
        rintro e w' ⟨rfl, hk⟩
        exact hK _ _ hk rfl (⟨hg.1.call hk, hg.2.keep hk⟩)
      refine Each.cons (fun vs W hl => ?_) ?_
      · apply with9 hl
        clear hl vs
        intro v0 v1 v2 v3 v4 v5 v6 v7 v8 hg hd K hK
        clear hd
        rw [if_pos (by kernel_rfl)]
        simp only [puts, Act.put, List.setIfInBounds_toArray, List.set_cons_zero, List.set_cons_succ] at hK ⊢
        go_simp
        exact hK _ _ (below1 _ _) ⟨_, rfl, Lb.new _ _ _, hg.1.size⟩ ⟨hg.1.alloc _, hg.2.newA _⟩
      refine Each.cons (fun vs W hl => ?_) ?_
      · apply with9 hl
        clear hl vs
        intro v0 v1 v2 v3 v4 v5 v6 v7 v8 hg hd K hK
        clear hd
        rw [if_pos (by kernel_rfl)]
        simp only [puts, Act.put, List.setIfInBounds_toArray, List.set_cons_zero, List.set_cons_succ] at hK ⊢
        go_simp
        exact hK _ _ (below1 _ _) ⟨_, rfl, Lb.new _ _ _, hg.1.size⟩ ⟨hg.1.alloc _, hg.2.newB _⟩
      exact Each.nil
    · intro vs W hl
      apply with9 hl
      clear hl vs
      intro v0 v1 v2 v3 v4 v5 v6 v7 v8 hg hall
      have d0 : v0 = Value.agg #[Value.int IntKind.i64 a, Value.int IntKind.u32 p] := hall 0 v0 rfl
      subst d0
      have d1 : v1 = Value.agg #[Value.int IntKind.i64 b, Value.int IntKind.u32 q] := hall 1 v1 rfl
      subst d1
      have d2 : Ls W v2 [(a, p), (b, q)] := hall 2 v2 rfl
      have d3 : v3 = Value.agg #[Value.int IntKind.i64 jx, Value.int IntKind.u32 jp] := hall 3 v3 rfl
      subst d3
      have d4 : v4 = Value.agg #[Value.int IntKind.i64 a, Value.int IntKind.u32 p] := hall 4 v4 rfl
      subst d4
      have d5 : v5 = Value.agg #[Value.int IntKind.i64 b, Value.int IntKind.u32 q] := hall 5 v5 rfl
      subst d5
      have d6 : v6 = Value.agg #[Value.int IntKind.i64 mx, Value.int IntKind.u32 mp] := hall 6 v6 rfl
      subst d6
      have d7 : ∃ g, v7 = Value.pointer (some ⟨g, 0, none⟩) ∧ Lb W g 0 0 ∧ N + 2 < g := hall 7 v7 rfl
      have d8 : ∃ g, v8 = Value.pointer (some ⟨g, 0, none⟩) ∧ Lb W g 0 0 ∧ N + 2 < g := hall 8 v8 rfl
      clear hall
      simp only [puts, Act.put, List.setIfInBounds_toArray, List.set_cons_zero, List.set_cons_succ, List.take_succ_cons, List.take_zero, List.drop_succ_cons, List.drop_zero]
      obtain ⟨g, e7, lg, ng⟩ := d7
      obtain ⟨h, e8, lh, nh⟩ := d8
      subst e7 e8
      have ne : g ≠ h := fun e => hg.2.ne g rfl (by rw [e]; rfl)
      have ne2 : h ≠ g := Ne.symm ne
      have H3 := hd hg.1
      have HG := hd lg
      have HH := hd lh
      have c0 := lg.c0
      have c1 := lg.c1
      have f0 := lg.fz 0
      have f1 := lg.fz 1
      have c2 := lh.c0
      have c3 := lh.c1
      have f2 := lh.fz 0
      have f3 := lh.fz 1
      clear hg lg lh d2
      go_wp2_with fail
      have A5 := L5.mk2 (s := jx) (t := jp) (u := mx) (v := mp) H3.out HG.out HH.out ng nh ne
      clear c0 c1 c2 c3 f0 f1 f2 f3 H3 HG HH ne ne2
      generalize (((W.setCell ⟨g, 0, none⟩ (.int .i64 jx)).setCell ⟨g, 1, none⟩ (.int .u32 jp)).setCell ⟨h, 0, none⟩ (.int .i64 mx)).setCell ⟨h, 1, none⟩ (.int .u32 mp) = w4 at *
      clear W ng nh
      go_cut [9] from 26 to 47 (fun s wx => s = .bool true ∧ L5 w N a p b q c r g h jx jp mx mp wx)
      case first =>
        have c0 := Ltr.c0 A5.l3.a
        have c1 := Ltr.c1 A5.l3.a
        have c2 := Ltr.c0 A5.l3.b
        have c3 := Ltr.c1 A5.l3.b
        have c4 := Ltr.c0 A5.l3.c
        have c5 := Ltr.c1 A5.l3.c
        have c6 := Ltr.c0 A5.j
        have c7 := Ltr.c1 A5.j
        have c8 := Ltr.c0 A5.m
        have c9 := Ltr.c1 A5.m
        have hany := Ltr.any w4
        have HA := hd A5
        clear A5
        cases fac <;> cases fbc
        all_goals
          obtain rfl : fjc = _ := LU.out
          refine wp_region_later (by kernel_rfl) (by kernel_rfl) ?_
          repeat (go_big_quiet_step (first | (go_at_call 11; with_reducible exact later_of (FAJ.out _)) | (go_at_call 11; with_reducible exact later_of (FBJ.out _)) | (go_at_call 11; with_reducible exact later_of (FJC.out _)) | (go_at_call 11; with_reducible exact later_of (FAC.out _)) | (go_at_call 11; with_reducible exact later_of (FBC.out _)) | fail))
          refine wpQuiet_nil ?_
          rintro _ ⟨s, rfl⟩
          have HE := hd (HA.out.call s.bel)
          clear c0 c1 c2 c3 c4 c5 c6 c7 c8 c9 hany
          go_wp2_with fail
          go_meet
          exact ⟨rfl, HE.out⟩
      case rest =>
        obtain ⟨rfl, A6⟩ := hcut
        clear A5
        go_wp2_with fail
        go_cut [10] from 48 to 69 (fun s wx => s = .bool true ∧ L5 w N a p b q c r g h jx jp mx mp wx)
        case first =>
          have c0 := Ltr.c0 A6.l3.a
          have c1 := Ltr.c1 A6.l3.a
          have c2 := Ltr.c0 A6.l3.b
          have c3 := Ltr.c1 A6.l3.b
          have c4 := Ltr.c0 A6.l3.c
          have c5 := Ltr.c1 A6.l3.c
          have c6 := Ltr.c0 A6.j
          have c7 := Ltr.c1 A6.j
          have c8 := Ltr.c0 A6.m
          have c9 := Ltr.c1 A6.m
          have hany := Ltr.any wc
          have HA := hd A6
          clear A6
          cases fca <;> cases fcb
          all_goals
            obtain rfl : fcm = _ := LD.out
            refine wp_region_later (by kernel_rfl) (by kernel_rfl) ?_
            repeat (go_big_quiet_step (first | (go_at_call 11; with_reducible exact later_of (FMA.out _)) | (go_at_call 11; with_reducible exact later_of (FMB.out _)) | (go_at_call 11; with_reducible exact later_of (FCM.out _)) | (go_at_call 11; with_reducible exact later_of (FCA.out _)) | (go_at_call 11; with_reducible exact later_of (FCB.out _)) | fail))
            refine wpQuiet_nil ?_
            rintro _ ⟨s, rfl⟩
            have HE := hd (HA.out.call s.bel)
            clear c0 c1 c2 c3 c4 c5 c6 c7 c8 c9 hany
            go_wp2_with fail
            go_meet
            exact ⟨rfl, HE.out⟩
        case rest =>
          obtain ⟨rfl, A7⟩ := hcut
          clear A6
          generalize wc = wd at *
          go_wp2_with fail
          have c0 := Ltr.c0 A7.l3.a
          have c1 := Ltr.c1 A7.l3.a
          have c2 := Ltr.c0 A7.l3.b
          have c3 := Ltr.c1 A7.l3.b
          have c4 := Ltr.c0 A7.l3.c
          have c5 := Ltr.c1 A7.l3.c
          have c6 := Ltr.c0 A7.j
          have c7 := Ltr.c1 A7.j
          have c8 := Ltr.c0 A7.m
          have c9 := Ltr.c1 A7.m
          have hany := Ltr.any wd
          have HA := hd A7
          clear A7
          have e1 := EJB.out
          have e2 := EMA.out
          cases fab
          all_goals
            refine wp_region_later (by kernel_rfl) (by kernel_rfl) ?_
            repeat (go_big_quiet_step (first | (go_at_call 11; with_reducible exact later_of (FAB.out _)) | fail))
            refine wpQuiet_nil ?_
            rintro _ ⟨s, rfl⟩
            have HE := hd (HA.out.call s.bel)
            clear c0 c1 c2 c3 c4 c5 c6 c7 c8 c9 hany e1 e2
            go_wp2_with fail
            go_ret
            exact VEnd.mk HE.out.l3.bel

end Go.Proofs.Ytcgimbomandjfaa
