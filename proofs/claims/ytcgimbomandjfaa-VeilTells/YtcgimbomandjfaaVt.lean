/- VeilTells: the law's walk. -/
import Derived.Test.YtcgimbomandjfaaL5
import Derived.Test.YtcgimbomandjfaaDc
import Derived.Test.YtcgimbomandjfaaVp
namespace Go.Proofs.Ytcgimbomandjfaa
open Go.RowKit
set_option linter.unusedVariables false

/-- Two labels in blocks of their own, and a list of labels that came in. -/
structure TT (w : World) (N : Nat) (x p y q : Int) (la : Option Addr) (n cap : Nat) (ls : List (Int × Int)) (W : World) : Prop where
  bel : Below w.heap.size w W
  a : Lb W N x p
  b : Lb W (N + 1) y q
  l : Ls W (.slice la n cap) ls
theorem TT.call {w W W' : World} {N : Nat} {x p y q : Int} {la : Option Addr} {n cap : Nat} {ls : List (Int × Int)} (h : TT w N x p y q la n cap ls W) (k : Below W.heap.size W W') : TT w N x p y q la n cap ls W' := ⟨below_below h.bel k, h.a.keep k, h.b.keep k, h.l.keep k⟩
theorem TT.drew {w W : World} {N : Nat} {x p y q : Int} {la : Option Addr} {n cap : Nat} {ls : List (Int × Int)} (h : TT w N x p y q la n cap ls W) : TT w N x p y q la n cap ls W.drew := h.call (Below.refl _ _).drew
theorem TT.alloc {w W : World} {N : Nat} {x p y q : Int} {la : Option Addr} {n cap : Nat} {ls : List (Int × Int)} (h : TT w N x p y q la n cap ls W) (o : Obj) : TT w N x p y q la n cap ls (W.alloc o) := h.call (below1 W o)
theorem TT.first {w : World} {la : Option Addr} {n cap : Nat} {ls : List (Int × Int)} (h : Ls w (.slice la n cap) ls) (x p y q : Int) : TT w w.heap.size x p y q la n cap ls ((w.alloc (.cells #[.int .i64 x, .int .u32 p] 24)).alloc (.cells #[.int .i64 y, .int .u32 q] 24)) := by
  have b2 := Lb.new (w.alloc (.cells #[.int .i64 x, .int .u32 p] 24)) y q
  simp only [World.size_alloc] at b2
  exact ⟨below2 _ _ _, (Lb.new w x p).alloc _, b2, h.keep (below2 _ _ _)⟩

set_option maxRecDepth 100000 in
set_option maxHeartbeats 8000000 in
theorem tells_walk (x p y q jx jp mx mp lx lp ce : Int) (fab : Bool) (la : Option Addr) (n cap : Nat) (ls : List (Int × Int)) (w : World) (hl : Ls w (.slice la n cap) ls)
    (C9 : Hid (∀ w, Calls Try.prog 9 #[.agg #[.int .i64 x, .int .u32 p]] w fun e w' => VEnd w (.int .i64 ce) e w'))
    (C10 : Hid (∀ w, Calls Try.prog 10 #[.agg #[.int .i64 x, .int .u32 p]] w fun e w' => VEnd w (.int .i64 ce) e w'))
    (F11 : Hid (∀ w, Calls Try.prog 11 #[.agg #[.int .i64 x, .int .u32 p], .agg #[.int .i64 y, .int .u32 q]] w fun e w' => VEnd w (.bool fab) e w'))
    (F12 : Hid (∀ w, Calls Try.prog 12 #[.agg #[.int .i64 x, .int .u32 p], .agg #[.int .i64 y, .int .u32 q]] w fun e w' => VEnd w (.bool fab) e w'))
    (J13 : Hid (∀ w v, Ls w v [(x, p), (y, q)] → Calls Try.prog 13 #[v] w fun e w' => VEnd w (.agg #[.int .i64 jx, .int .u32 jp]) e w'))
    (J14 : Hid (∀ w v, Ls w v [(x, p), (y, q)] → Calls Try.prog 14 #[v] w fun e w' => VEnd w (.agg #[.int .i64 jx, .int .u32 jp]) e w'))
    (JL13 : Hid (∀ w v, Ls w v ls → Calls Try.prog 13 #[v] w fun e w' => VEnd w (.agg #[.int .i64 lx, .int .u32 lp]) e w'))
    (JL14 : Hid (∀ w v, Ls w v ls → Calls Try.prog 14 #[v] w fun e w' => VEnd w (.agg #[.int .i64 lx, .int .u32 lp]) e w'))
    (M15 : Hid (∀ w, Calls Try.prog 15 #[.agg #[.int .i64 x, .int .u32 p], .agg #[.int .i64 y, .int .u32 q]] w fun e w' => VEnd w (.agg #[.int .i64 mx, .int .u32 mp]) e w'))
    (M16 : Hid (∀ w, Calls Try.prog 16 #[.agg #[.int .i64 x, .int .u32 p], .agg #[.int .i64 y, .int .u32 q]] w fun e w' => VEnd w (.agg #[.int .i64 mx, .int .u32 mp]) e w')) :
    Calls Try.prog 3 #[.agg #[.int .i64 x, .int .u32 p], .agg #[.int .i64 y, .int .u32 q], .slice la n cap] w fun e w' => VEnd w (.bool true) e w' := by
  have WK : Hid (∀ w, Calls Try.prog 17 #[] w fun e w' => VEnd w (.bool true) e w') := hd works_true
  have HL := hd hl
  clear hl
  go_enter Try.func3, Try.ntmps3
  go_wp2_with fail
  have A := TT.first HL.out x p y q
  clear HL
  generalize hN : w.heap.size = N at *
  have HN := hd hN
  clear hN
  generalize (w.alloc (Obj.cells #[Value.int IntKind.i64 x, Value.int IntKind.u32 p] 24)).alloc (Obj.cells #[Value.int IntKind.i64 y, Value.int IntKind.u32 q] 24) = w1 at *
  refine wp_region_each 45 (fun W W' => Below W.heap.size W W') (fun i v W => match i with | 0 => v = Value.agg #[Value.int IntKind.i64 x, Value.int IntKind.u32 p] | 1 => v = Value.int IntKind.i64 ce | 2 => v = Value.agg #[Value.int IntKind.i64 x, Value.int IntKind.u32 p] | 3 => v = Value.int IntKind.i64 ce | 4 => v = Value.bool true | 5 => v = Value.bool true | 6 => v = Value.agg #[Value.int IntKind.i64 x, Value.int IntKind.u32 p] | 7 => v = Value.agg #[Value.int IntKind.i64 y, Value.int IntKind.u32 q] | 8 => v = Value.bool fab | 9 => v = Value.agg #[Value.int IntKind.i64 x, Value.int IntKind.u32 p] | 10 => v = Value.agg #[Value.int IntKind.i64 y, Value.int IntKind.u32 q] | 11 => v = Value.bool fab | 12 => v = Value.bool true | 13 => v = Value.bool true | 14 => v = Value.bool true | 15 => v = Value.agg #[Value.int IntKind.i64 x, Value.int IntKind.u32 p] | 16 => v = Value.agg #[Value.int IntKind.i64 y, Value.int IntKind.u32 q] | 17 => Ls W v [(x, p), (y, q)] | 18 => v = Value.agg #[Value.int IntKind.i64 jx, Value.int IntKind.u32 jp] | 19 => v = Value.agg #[Value.int IntKind.i64 x, Value.int IntKind.u32 p] | 20 => v = Value.agg #[Value.int IntKind.i64 y, Value.int IntKind.u32 q] | 21 => Ls W v [(x, p), (y, q)] | 22 => v = Value.agg #[Value.int IntKind.i64 jx, Value.int IntKind.u32 jp] | 23 => v = Value.bool true | 24 => v = Value.bool true | 25 => v = Value.bool true | 26 => v = Value.slice la n cap | 27 => v = Value.agg #[Value.int IntKind.i64 lx, Value.int IntKind.u32 lp] | 28 => v = Value.slice la n cap | 29 => v = Value.agg #[Value.int IntKind.i64 lx, Value.int IntKind.u32 lp] | 30 => v = Value.bool true | 31 => v = Value.bool true | 32 => v = Value.bool true | 33 => v = Value.agg #[Value.int IntKind.i64 x, Value.int IntKind.u32 p] | 34 => v = Value.agg #[Value.int IntKind.i64 y, Value.int IntKind.u32 q] | 35 => v = Value.agg #[Value.int IntKind.i64 mx, Value.int IntKind.u32 mp] | 36 => v = Value.agg #[Value.int IntKind.i64 x, Value.int IntKind.u32 p] | 37 => v = Value.agg #[Value.int IntKind.i64 y, Value.int IntKind.u32 q] | 38 => v = Value.agg #[Value.int IntKind.i64 mx, Value.int IntKind.u32 mp] | 39 => v = Value.bool true | 40 => v = Value.bool true | 41 => v = Value.bool true | 42 => v = Value.bool true | 43 => v = Value.bool true | 44 => v = Value.bool true | _ => True) (fun _ W => TT w N x p y q la n cap ls W) (by kernel_rfl) (by kernel_rfl) (fun j v W W' hE h => by
      match j with
      | 0 => exact h
      | 1 => exact h
      | 2 => exact h
      | 3 => exact h
      | 4 => exact h
      | 5 => exact h
      | 6 => exact h
      | 7 => exact h
      | 8 => exact h
      | 9 => exact h
      | 10 => exact h
      | 11 => exact h
      | 12 => exact h
      | 13 => exact h
      | 14 => exact h
      | 15 => exact h
      | 16 => exact h
      | 17 => exact Ls.keep h hE
      | 18 => exact h
      | 19 => exact h
      | 20 => exact h
      | 21 => exact Ls.keep h hE
      | 22 => exact h
      | 23 => exact h
      | 24 => exact h
      | 25 => exact h
      | 26 => exact h
      | 27 => exact h
      | 28 => exact h
      | 29 => exact h
      | 30 => exact h
      | 31 => exact h
      | 32 => exact h
      | 33 => exact h
      | 34 => exact h
      | 35 => exact h
      | 36 => exact h
      | 37 => exact h
      | 38 => exact h
      | 39 => exact h
      | 40 => exact h
      | 41 => exact h
      | 42 => exact h
      | 43 => exact h
      | 44 => exact h
      | _ + 45 => trivial) (A.drew) ?_ ?_
  · simp only [List.take_succ_cons, List.take_zero]
    refine Each.cons (fun vs W hl => ?_) ?_
    · apply with45 hl
      clear hl vs
      intro v0 v1 v2 v3 v4 v5 v6 v7 v8 v9 v10 v11 v12 v13 v14 v15 v16 v17 v18 v19 v20 v21 v22 v23 v24 v25 v26 v27 v28 v29 v30 v31 v32 v33 v34 v35 v36 v37 v38 v39 v40 v41 v42 v43 v44 hg hd K hK
      clear hd
      rw [if_pos (by kernel_rfl)]
      simp only [puts, Act.put, List.setIfInBounds_toArray, List.set_cons_zero, List.set_cons_succ] at hK ⊢
      have c0 := hg.a.c0
      have c1 := hg.a.c1
      go_simp
      exact hK _ _ (Below.refl _ _) rfl hg
    refine Each.cons (fun vs W hl => ?_) ?_
    · apply with45 hl
      clear hl vs
      intro v0 v1 v2 v3 v4 v5 v6 v7 v8 v9 v10 v11 v12 v13 v14 v15 v16 v17 v18 v19 v20 v21 v22 v23 v24 v25 v26 v27 v28 v29 v30 v31 v32 v33 v34 v35 v36 v37 v38 v39 v40 v41 v42 v43 v44 hg hd K hK
      have d0 : v0 = Value.agg #[Value.int IntKind.i64 x, Value.int IntKind.u32 p] := hd 0 v0 (by kernel_rfl) rfl
      subst d0
      clear hd
      rw [if_pos (by kernel_rfl)]
      simp only [puts, Act.put, List.setIfInBounds_toArray, List.set_cons_zero, List.set_cons_succ] at hK ⊢
      go_simp
      refine (C9.out _).mono ?_
      rintro e w' ⟨rfl, hk⟩
      exact hK _ _ hk rfl (hg.call hk)
    refine Each.cons (fun vs W hl => ?_) ?_
    · apply with45 hl
      clear hl vs
      intro v0 v1 v2 v3 v4 v5 v6 v7 v8 v9 v10 v11 v12 v13 v14 v15 v16 v17 v18 v19 v20 v21 v22 v23 v24 v25 v26 v27 v28 v29 v30 v31 v32 v33 v34 v35 v36 v37 v38 v39 v40 v41 v42 v43 v44 hg hd K hK
      clear hd
      rw [if_pos (by kernel_rfl)]
      simp only [puts, Act.put, List.setIfInBounds_toArray, List.set_cons_zero, List.set_cons_succ] at hK ⊢
      have c0 := hg.a.c0
      have c1 := hg.a.c1
      go_simp
      exact hK _ _ (Below.refl _ _) rfl hg
    refine Each.cons (fun vs W hl => ?_) ?_
    · apply with45 hl
      clear hl vs
      intro v0 v1 v2 v3 v4 v5 v6 v7 v8 v9 v10 v11 v12 v13 v14 v15 v16 v17 v18 v19 v20 v21 v22 v23 v24 v25 v26 v27 v28 v29 v30 v31 v32 v33 v34 v35 v36 v37 v38 v39 v40 v41 v42 v43 v44 hg hd K hK
      have d2 : v2 = Value.agg #[Value.int IntKind.i64 x, Value.int IntKind.u32 p] := hd 2 v2 (by kernel_rfl) rfl
      subst d2
      clear hd
      rw [if_pos (by kernel_rfl)]
      simp only [puts, Act.put, List.setIfInBounds_toArray, List.set_cons_zero, List.set_cons_succ] at hK ⊢
      go_simp
      refine (C10.out _).mono ?_
      rintro e w' ⟨rfl, hk⟩
      exact hK _ _ hk rfl (hg.call hk)
    refine Each.cons (fun vs W hl => ?_) ?_
    · apply with45 hl
      clear hl vs
      intro v0 v1 v2 v3 v4 v5 v6 v7 v8 v9 v10 v11 v12 v13 v14 v15 v16 v17 v18 v19 v20 v21 v22 v23 v24 v25 v26 v27 v28 v29 v30 v31 v32 v33 v34 v35 v36 v37 v38 v39 v40 v41 v42 v43 v44 hg hd K hK
      have d1 : v1 = Value.int IntKind.i64 ce := hd 1 v1 (by kernel_rfl) rfl
      subst d1
      have d3 : v3 = Value.int IntKind.i64 ce := hd 3 v3 (by kernel_rfl) rfl
      subst d3
      clear hd
      rw [if_pos (by kernel_rfl)]
      simp only [puts, Act.put, List.setIfInBounds_toArray, List.set_cons_zero, List.set_cons_succ] at hK ⊢
      go_simp
      exact hK _ _ (Below.refl _ _) (by first | rfl | simp) hg
    refine Each.cons (fun vs W hl => ?_) ?_
    · apply with45 hl
      clear hl vs
      intro v0 v1 v2 v3 v4 v5 v6 v7 v8 v9 v10 v11 v12 v13 v14 v15 v16 v17 v18 v19 v20 v21 v22 v23 v24 v25 v26 v27 v28 v29 v30 v31 v32 v33 v34 v35 v36 v37 v38 v39 v40 v41 v42 v43 v44 hg hd K hK
      have d4 : v4 = Value.bool true := hd 4 v4 (by kernel_rfl) rfl
      subst d4
      clear hd
      rw [if_pos (by kernel_rfl)]
      simp only [puts, Act.put, List.setIfInBounds_toArray, List.set_cons_zero, List.set_cons_succ] at hK ⊢
      go_simp
      exact hK _ _ (Below.refl _ _) rfl hg
    refine Each.cons (fun vs W hl => ?_) ?_
    · apply with45 hl
      clear hl vs
      intro v0 v1 v2 v3 v4 v5 v6 v7 v8 v9 v10 v11 v12 v13 v14 v15 v16 v17 v18 v19 v20 v21 v22 v23 v24 v25 v26 v27 v28 v29 v30 v31 v32 v33 v34 v35 v36 v37 v38 v39 v40 v41 v42 v43 v44 hg hd K hK
      have d5 : v5 = Value.bool true := hd 5 v5 (by kernel_rfl) rfl
      subst d5
      clear hd
      rw [if_pos (by kernel_rfl)]
      simp only [puts, Act.put, List.setIfInBounds_toArray, List.set_cons_zero, List.set_cons_succ] at hK ⊢
      have c0 := hg.a.c0
      have c1 := hg.a.c1
      go_simp
      exact hK _ _ (Below.refl _ _) rfl hg
    refine Each.cons (fun vs W hl => ?_) ?_
    · apply with45 hl
      clear hl vs
      intro v0 v1 v2 v3 v4 v5 v6 v7 v8 v9 v10 v11 v12 v13 v14 v15 v16 v17 v18 v19 v20 v21 v22 v23 v24 v25 v26 v27 v28 v29 v30 v31 v32 v33 v34 v35 v36 v37 v38 v39 v40 v41 v42 v43 v44 hg hd K hK
      have d5 : v5 = Value.bool true := hd 5 v5 (by kernel_rfl) rfl
      subst d5
      clear hd
      rw [if_pos (by kernel_rfl)]
      simp only [puts, Act.put, List.setIfInBounds_toArray, List.set_cons_zero, List.set_cons_succ] at hK ⊢
      have c0 := hg.b.c0
      have c1 := hg.b.c1
      go_simp
      exact hK _ _ (Below.refl _ _) rfl hg
    refine Each.cons (fun vs W hl => ?_) ?_
    · apply with45 hl
      clear hl vs
      intro v0 v1 v2 v3 v4 v5 v6 v7 v8 v9 v10 v11 v12 v13 v14 v15 v16 v17 v18 v19 v20 v21 v22 v23 v24 v25 v26 v27 v28 v29 v30 v31 v32 v33 v34 v35 v36 v37 v38 v39 v40 v41 v42 v43 v44 hg hd K hK
      have d5 : v5 = Value.bool true := hd 5 v5 (by kernel_rfl) rfl
      subst d5
      have d6 : v6 = Value.agg #[Value.int IntKind.i64 x, Value.int IntKind.u32 p] := hd 6 v6 (by kernel_rfl) rfl
      subst d6
      have d7 : v7 = Value.agg #[Value.int IntKind.i64 y, Value.int IntKind.u32 q] := hd 7 v7 (by kernel_rfl) rfl
      subst d7
      clear hd
      rw [if_pos (by kernel_rfl)]
      simp only [puts, Act.put, List.setIfInBounds_toArray, List.set_cons_zero, List.set_cons_succ] at hK ⊢
      go_simp
      refine (F11.out _).mono ?_
      rintro e w' ⟨rfl, hk⟩
      exact hK _ _ hk rfl (hg.call hk)
    refine Each.cons (fun vs W hl => ?_) ?_
    · apply with45 hl
      clear hl vs
      intro v0 v1 v2 v3 v4 v5 v6 v7 v8 v9 v10 v11 v12 v13 v14 v15 v16 v17 v18 v19 v20 v21 v22 v23 v24 v25 v26 v27 v28 v29 v30 v31 v32 v33 v34 v35 v36 v37 v38 v39 v40 v41 v42 v43 v44 hg hd K hK
      have d5 : v5 = Value.bool true := hd 5 v5 (by kernel_rfl) rfl
      subst d5
      clear hd
      rw [if_pos (by kernel_rfl)]
      simp only [puts, Act.put, List.setIfInBounds_toArray, List.set_cons_zero, List.set_cons_succ] at hK ⊢
      have c0 := hg.a.c0
      have c1 := hg.a.c1
      go_simp
      exact hK _ _ (Below.refl _ _) rfl hg
    refine Each.cons (fun vs W hl => ?_) ?_
    · apply with45 hl
      clear hl vs
      intro v0 v1 v2 v3 v4 v5 v6 v7 v8 v9 v10 v11 v12 v13 v14 v15 v16 v17 v18 v19 v20 v21 v22 v23 v24 v25 v26 v27 v28 v29 v30 v31 v32 v33 v34 v35 v36 v37 v38 v39 v40 v41 v42 v43 v44 hg hd K hK
      have d5 : v5 = Value.bool true := hd 5 v5 (by kernel_rfl) rfl
      subst d5
      clear hd
      rw [if_pos (by kernel_rfl)]
      simp only [puts, Act.put, List.setIfInBounds_toArray, List.set_cons_zero, List.set_cons_succ] at hK ⊢
      have c0 := hg.b.c0
      have c1 := hg.b.c1
      go_simp
      exact hK _ _ (Below.refl _ _) rfl hg
    refine Each.cons (fun vs W hl => ?_) ?_
    · apply with45 hl
      clear hl vs
      intro v0 v1 v2 v3 v4 v5 v6 v7 v8 v9 v10 v11 v12 v13 v14 v15 v16 v17 v18 v19 v20 v21 v22 v23 v24 v25 v26 v27 v28 v29 v30 v31 v32 v33 v34 v35 v36 v37 v38 v39 v40 v41 v42 v43 v44 hg hd K hK
      have d5 : v5 = Value.bool true := hd 5 v5 (by kernel_rfl) rfl
      subst d5
      have d9 : v9 = Value.agg #[Value.int IntKind.i64 x, Value.int IntKind.u32 p] := hd 9 v9 (by kernel_rfl) rfl
      subst d9
      have d10 : v10 = Value.agg #[Value.int IntKind.i64 y, Value.int IntKind.u32 q] := hd 10 v10 (by kernel_rfl) rfl
      subst d10
      clear hd
      rw [if_pos (by kernel_rfl)]
      simp only [puts, Act.put, List.setIfInBounds_toArray, List.set_cons_zero, List.set_cons_succ] at hK ⊢
      go_simp
      refine (F12.out _).mono ?_
      rintro e w' ⟨rfl, hk⟩
      exact hK _ _ hk rfl (hg.call hk)
    refine Each.cons (fun vs W hl => ?_) ?_
    · apply with45 hl
      clear hl vs
      intro v0 v1 v2 v3 v4 v5 v6 v7 v8 v9 v10 v11 v12 v13 v14 v15 v16 v17 v18 v19 v20 v21 v22 v23 v24 v25 v26 v27 v28 v29 v30 v31 v32 v33 v34 v35 v36 v37 v38 v39 v40 v41 v42 v43 v44 hg hd K hK
      have d5 : v5 = Value.bool true := hd 5 v5 (by kernel_rfl) rfl
      subst d5
      have d8 : v8 = Value.bool fab := hd 8 v8 (by kernel_rfl) rfl
      subst d8
      have d11 : v11 = Value.bool fab := hd 11 v11 (by kernel_rfl) rfl
      subst d11
      clear hd
      rw [if_pos (by kernel_rfl)]
      simp only [puts, Act.put, List.setIfInBounds_toArray, List.set_cons_zero, List.set_cons_succ] at hK ⊢
      go_simp
      exact hK _ _ (Below.refl _ _) (by first | rfl | simp) hg
    refine Each.cons (fun vs W hl => ?_) ?_
    · apply with45 hl
      clear hl vs
      intro v0 v1 v2 v3 v4 v5 v6 v7 v8 v9 v10 v11 v12 v13 v14 v15 v16 v17 v18 v19 v20 v21 v22 v23 v24 v25 v26 v27 v28 v29 v30 v31 v32 v33 v34 v35 v36 v37 v38 v39 v40 v41 v42 v43 v44 hg hd K hK
      have d5 : v5 = Value.bool true := hd 5 v5 (by kernel_rfl) rfl
      subst d5
      have d12 : v12 = Value.bool true := hd 12 v12 (by kernel_rfl) rfl
      subst d12
      clear hd
      rw [if_pos (by kernel_rfl)]
      simp only [puts, Act.put, List.setIfInBounds_toArray, List.set_cons_zero, List.set_cons_succ] at hK ⊢
      go_simp
      exact hK _ _ (Below.refl _ _) rfl hg
    refine Each.cons (fun vs W hl => ?_) ?_
    · apply with45 hl
      clear hl vs
      intro v0 v1 v2 v3 v4 v5 v6 v7 v8 v9 v10 v11 v12 v13 v14 v15 v16 v17 v18 v19 v20 v21 v22 v23 v24 v25 v26 v27 v28 v29 v30 v31 v32 v33 v34 v35 v36 v37 v38 v39 v40 v41 v42 v43 v44 hg hd K hK
      have d13 : v13 = Value.bool true := hd 13 v13 (by kernel_rfl) rfl
      subst d13
      clear hd
      rw [if_pos (by kernel_rfl)]
      simp only [puts, Act.put, List.setIfInBounds_toArray, List.set_cons_zero, List.set_cons_succ] at hK ⊢
      go_simp
      exact hK _ _ (Below.refl _ _) rfl hg
    refine Each.cons (fun vs W hl => ?_) ?_
    · apply with45 hl
      clear hl vs
      intro v0 v1 v2 v3 v4 v5 v6 v7 v8 v9 v10 v11 v12 v13 v14 v15 v16 v17 v18 v19 v20 v21 v22 v23 v24 v25 v26 v27 v28 v29 v30 v31 v32 v33 v34 v35 v36 v37 v38 v39 v40 v41 v42 v43 v44 hg hd K hK
      have d14 : v14 = Value.bool true := hd 14 v14 (by kernel_rfl) rfl
      subst d14
      clear hd
      rw [if_pos (by kernel_rfl)]
      simp only [puts, Act.put, List.setIfInBounds_toArray, List.set_cons_zero, List.set_cons_succ] at hK ⊢
      have c0 := hg.a.c0
      have c1 := hg.a.c1
      go_simp
      exact hK _ _ (Below.refl _ _) rfl hg
    refine Each.cons (fun vs W hl => ?_) ?_
    · apply with45 hl
      clear hl vs
      intro v0 v1 v2 v3 v4 v5 v6 v7 v8 v9 v10 v11 v12 v13 v14 v15 v16 v17 v18 v19 v20 v21 v22 v23 v24 v25 v26 v27 v28 v29 v30 v31 v32 v33 v34 v35 v36 v37 v38 v39 v40 v41 v42 v43 v44 hg hd K hK
      have d14 : v14 = Value.bool true := hd 14 v14 (by kernel_rfl) rfl
      subst d14
      clear hd
      rw [if_pos (by kernel_rfl)]
      simp only [puts, Act.put, List.setIfInBounds_toArray, List.set_cons_zero, List.set_cons_succ] at hK ⊢
      have c0 := hg.b.c0
      have c1 := hg.b.c1
      go_simp
      exact hK _ _ (Below.refl _ _) rfl hg
    refine Each.cons (fun vs W hl => ?_) ?_
    · apply with45 hl
      clear hl vs
      intro v0 v1 v2 v3 v4 v5 v6 v7 v8 v9 v10 v11 v12 v13 v14 v15 v16 v17 v18 v19 v20 v21 v22 v23 v24 v25 v26 v27 v28 v29 v30 v31 v32 v33 v34 v35 v36 v37 v38 v39 v40 v41 v42 v43 v44 hg hd K hK
      have d14 : v14 = Value.bool true := hd 14 v14 (by kernel_rfl) rfl
      subst d14
      have d15 : v15 = Value.agg #[Value.int IntKind.i64 x, Value.int IntKind.u32 p] := hd 15 v15 (by kernel_rfl) rfl
      subst d15
      have d16 : v16 = Value.agg #[Value.int IntKind.i64 y, Value.int IntKind.u32 q] := hd 16 v16 (by kernel_rfl) rfl
      subst d16
      clear hd
      rw [if_pos (by kernel_rfl)]
      simp only [puts, Act.put, List.setIfInBounds_toArray, List.set_cons_zero, List.set_cons_succ] at hK ⊢
      go_simp
      exact hK _ _ (below1 _ _) (Ls.two _ _ _ _ _) (hg.alloc _)
    refine Each.cons (fun vs W hl => ?_) ?_
    · apply with45 hl
      clear hl vs
      intro v0 v1 v2 v3 v4 v5 v6 v7 v8 v9 v10 v11 v12 v13 v14 v15 v16 v17 v18 v19 v20 v21 v22 v23 v24 v25 v26 v27 v28 v29 v30 v31 v32 v33 v34 v35 v36 v37 v38 v39 v40 v41 v42 v43 v44 hg hd K hK
      have d14 : v14 = Value.bool true := hd 14 v14 (by kernel_rfl) rfl
      subst d14
      have d17 : Ls W v17 [(x, p), (y, q)] := hd 17 v17 (by kernel_rfl) rfl
      clear hd
      rw [if_pos (by kernel_rfl)]
      simp only [puts, Act.put, List.setIfInBounds_toArray, List.set_cons_zero, List.set_cons_succ] at hK ⊢
      go_simp
      refine (J13.out _ _ d17).mono ?_
      rintro e w' ⟨rfl, hk⟩
      exact hK _ _ hk rfl (hg.call hk)
    refine Each.cons (fun vs W hl => ?_) ?_
    · apply with45 hl
      clear hl vs
      intro v0 v1 v2 v3 v4 v5 v6 v7 v8 v9 v10 v11 v12 v13 v14 v15 v16 v17 v18 v19 v20 v21 v22 v23 v24 v25 v26 v27 v28 v29 v30 v31 v32 v33 v34 v35 v36 v37 v38 v39 v40 v41 v42 v43 v44 hg hd K hK
      have d14 : v14 = Value.bool true := hd 14 v14 (by kernel_rfl) rfl
      subst d14
      clear hd
      rw [if_pos (by kernel_rfl)]
      simp only [puts, Act.put, List.setIfInBounds_toArray, List.set_cons_zero, List.set_cons_succ] at hK ⊢
      have c0 := hg.a.c0
      have c1 := hg.a.c1
      go_simp
      exact hK _ _ (Below.refl _ _) rfl hg
    refine Each.cons (fun vs W hl => ?_) ?_
    · apply with45 hl
      clear hl vs
      intro v0 v1 v2 v3 v4 v5 v6 v7 v8 v9 v10 v11 v12 v13 v14 v15 v16 v17 v18 v19 v20 v21 v22 v23 v24 v25 v26 v27 v28 v29 v30 v31 v32 v33 v34 v35 v36 v37 v38 v39 v40 v41 v42 v43 v44 hg hd K hK
      have d14 : v14 = Value.bool true := hd 14 v14 (by kernel_rfl) rfl
      subst d14
      clear hd
      rw [if_pos (by kernel_rfl)]
      simp only [puts, Act.put, List.setIfInBounds_toArray, List.set_cons_zero, List.set_cons_succ] at hK ⊢
      have c0 := hg.b.c0
      have c1 := hg.b.c1
      go_simp
      exact hK _ _ (Below.refl _ _) rfl hg
    refine Each.cons (fun vs W hl => ?_) ?_
    · apply with45 hl
      clear hl vs
      intro v0 v1 v2 v3 v4 v5 v6 v7 v8 v9 v10 v11 v12 v13 v14 v15 v16 v17 v18 v19 v20 v21 v22 v23 v24 v25 v26 v27 v28 v29 v30 v31 v32 v33 v34 v35 v36 v37 v38 v39 v40 v41 v42 v43 v44 hg hd K hK
      have d14 : v14 = Value.bool true := hd 14 v14 (by kernel_rfl) rfl
      subst d14
      have d19 : v19 = Value.agg #[Value.int IntKind.i64 x, Value.int IntKind.u32 p] := hd 19 v19 (by kernel_rfl) rfl
      subst d19
      have d20 : v20 = Value.agg #[Value.int IntKind.i64 y, Value.int IntKind.u32 q] := hd 20 v20 (by kernel_rfl) rfl
      subst d20
      clear hd
      rw [if_pos (by kernel_rfl)]
      simp only [puts, Act.put, List.setIfInBounds_toArray, List.set_cons_zero, List.set_cons_succ] at hK ⊢
      go_simp
      exact hK _ _ (below1 _ _) (Ls.two _ _ _ _ _) (hg.alloc _)
    refine Each.cons (fun vs W hl => ?_) ?_
    · apply with45 hl
      clear hl vs
      intro v0 v1 v2 v3 v4 v5 v6 v7 v8 v9 v10 v11 v12 v13 v14 v15 v16 v17 v18 v19 v20 v21 v22 v23 v24 v25 v26 v27 v28 v29 v30 v31 v32 v33 v34 v35 v36 v37 v38 v39 v40 v41 v42 v43 v44 hg hd K hK
      have d14 : v14 = Value.bool true := hd 14 v14 (by kernel_rfl) rfl
      subst d14
      have d21 : Ls W v21 [(x, p), (y, q)] := hd 21 v21 (by kernel_rfl) rfl
      clear hd
      rw [if_pos (by kernel_rfl)]
      simp only [puts, Act.put, List.setIfInBounds_toArray, List.set_cons_zero, List.set_cons_succ] at hK ⊢
      go_simp
      refine (J14.out _ _ d21).mono ?_
      rintro e w' ⟨rfl, hk⟩
      exact hK _ _ hk rfl (hg.call hk)
    refine Each.cons (fun vs W hl => ?_) ?_
    · apply with45 hl
      clear hl vs
      intro v0 v1 v2 v3 v4 v5 v6 v7 v8 v9 v10 v11 v12 v13 v14 v15 v16 v17 v18 v19 v20 v21 v22 v23 v24 v25 v26 v27 v28 v29 v30 v31 v32 v33 v34 v35 v36 v37 v38 v39 v40 v41 v42 v43 v44 hg hd K hK
      have d14 : v14 = Value.bool true := hd 14 v14 (by kernel_rfl) rfl
      subst d14
      have d18 : v18 = Value.agg #[Value.int IntKind.i64 jx, Value.int IntKind.u32 jp] := hd 18 v18 (by kernel_rfl) rfl
      subst d18
      have d22 : v22 = Value.agg #[Value.int IntKind.i64 jx, Value.int IntKind.u32 jp] := hd 22 v22 (by kernel_rfl) rfl
      subst d22
      clear hd
      rw [if_pos (by kernel_rfl)]
      simp only [puts, Act.put, List.setIfInBounds_toArray, List.set_cons_zero, List.set_cons_succ] at hK ⊢
      have e24 := eq24r
      go_simp
      exact hK _ _ (Below.refl _ _) rfl hg
    refine Each.cons (fun vs W hl => ?_) ?_
    · apply with45 hl
      clear hl vs
      intro v0 v1 v2 v3 v4 v5 v6 v7 v8 v9 v10 v11 v12 v13 v14 v15 v16 v17 v18 v19 v20 v21 v22 v23 v24 v25 v26 v27 v28 v29 v30 v31 v32 v33 v34 v35 v36 v37 v38 v39 v40 v41 v42 v43 v44 hg hd K hK
      have d14 : v14 = Value.bool true := hd 14 v14 (by kernel_rfl) rfl
      subst d14
      have d23 : v23 = Value.bool true := hd 23 v23 (by kernel_rfl) rfl
      subst d23
      clear hd
      rw [if_pos (by kernel_rfl)]
      simp only [puts, Act.put, List.setIfInBounds_toArray, List.set_cons_zero, List.set_cons_succ] at hK ⊢
      go_simp
      exact hK _ _ (Below.refl _ _) rfl hg
    refine Each.cons (fun vs W hl => ?_) ?_
    · apply with45 hl
      clear hl vs
      intro v0 v1 v2 v3 v4 v5 v6 v7 v8 v9 v10 v11 v12 v13 v14 v15 v16 v17 v18 v19 v20 v21 v22 v23 v24 v25 v26 v27 v28 v29 v30 v31 v32 v33 v34 v35 v36 v37 v38 v39 v40 v41 v42 v43 v44 hg hd K hK
      have d24 : v24 = Value.bool true := hd 24 v24 (by kernel_rfl) rfl
      subst d24
      clear hd
      rw [if_pos (by kernel_rfl)]
      simp only [puts, Act.put, List.setIfInBounds_toArray, List.set_cons_zero, List.set_cons_succ] at hK ⊢
      go_simp
      exact hK _ _ (Below.refl _ _) rfl hg
    refine Each.cons (fun vs W hl => ?_) ?_
    · apply with45 hl
      clear hl vs
      intro v0 v1 v2 v3 v4 v5 v6 v7 v8 v9 v10 v11 v12 v13 v14 v15 v16 v17 v18 v19 v20 v21 v22 v23 v24 v25 v26 v27 v28 v29 v30 v31 v32 v33 v34 v35 v36 v37 v38 v39 v40 v41 v42 v43 v44 hg hd K hK
      have d25 : v25 = Value.bool true := hd 25 v25 (by kernel_rfl) rfl
      subst d25
      clear hd
      rw [if_pos (by kernel_rfl)]
      simp only [puts, Act.put, List.setIfInBounds_toArray, List.set_cons_zero, List.set_cons_succ] at hK ⊢
      go_simp
      exact hK _ _ (Below.refl _ _) rfl hg
    refine Each.cons (fun vs W hl => ?_) ?_
    · apply with45 hl
      clear hl vs
      intro v0 v1 v2 v3 v4 v5 v6 v7 v8 v9 v10 v11 v12 v13 v14 v15 v16 v17 v18 v19 v20 v21 v22 v23 v24 v25 v26 v27 v28 v29 v30 v31 v32 v33 v34 v35 v36 v37 v38 v39 v40 v41 v42 v43 v44 hg hd K hK
      have d25 : v25 = Value.bool true := hd 25 v25 (by kernel_rfl) rfl
      subst d25
      have d26 : v26 = Value.slice la n cap := hd 26 v26 (by kernel_rfl) rfl
      subst d26
      clear hd
      rw [if_pos (by kernel_rfl)]
      simp only [puts, Act.put, List.setIfInBounds_toArray, List.set_cons_zero, List.set_cons_succ] at hK ⊢
      go_simp
      refine (JL13.out _ _ hg.l).mono ?_
      rintro e w' ⟨rfl, hk⟩
      exact hK _ _ hk rfl (hg.call hk)
    refine Each.cons (fun vs W hl => ?_) ?_
    · apply with45 hl
      clear hl vs
      intro v0 v1 v2 v3 v4 v5 v6 v7 v8 v9 v10 v11 v12 v13 v14 v15 v16 v17 v18 v19 v20 v21 v22 v23 v24 v25 v26 v27 v28 v29 v30 v31 v32 v33 v34 v35 v36 v37 v38 v39 v40 v41 v42 v43 v44 hg hd K hK
      have d25 : v25 = Value.bool true := hd 25 v25 (by kernel_rfl) rfl
      subst d25
      clear hd
      rw [if_pos (by kernel_rfl)]
      simp only [puts, Act.put, List.setIfInBounds_toArray, List.set_cons_zero, List.set_cons_succ] at hK ⊢
      go_simp
      exact hK _ _ (Below.refl _ _) rfl hg
    refine Each.cons (fun vs W hl => ?_) ?_
    · apply with45 hl
      clear hl vs
      intro v0 v1 v2 v3 v4 v5 v6 v7 v8 v9 v10 v11 v12 v13 v14 v15 v16 v17 v18 v19 v20 v21 v22 v23 v24 v25 v26 v27 v28 v29 v30 v31 v32 v33 v34 v35 v36 v37 v38 v39 v40 v41 v42 v43 v44 hg hd K hK
      have d25 : v25 = Value.bool true := hd 25 v25 (by kernel_rfl) rfl
      subst d25
      have d28 : v28 = Value.slice la n cap := hd 28 v28 (by kernel_rfl) rfl
      subst d28
      clear hd
      rw [if_pos (by kernel_rfl)]
      simp only [puts, Act.put, List.setIfInBounds_toArray, List.set_cons_zero, List.set_cons_succ] at hK ⊢
      go_simp
      refine (JL14.out _ _ hg.l).mono ?_
      rintro e w' ⟨rfl, hk⟩
      exact hK _ _ hk rfl (hg.call hk)
    refine Each.cons (fun vs W hl => ?_) ?_
    · apply with45 hl
      clear hl vs
      intro v0 v1 v2 v3 v4 v5 v6 v7 v8 v9 v10 v11 v12 v13 v14 v15 v16 v17 v18 v19 v20 v21 v22 v23 v24 v25 v26 v27 v28 v29 v30 v31 v32 v33 v34 v35 v36 v37 v38 v39 v40 v41 v42 v43 v44 hg hd K hK
      have d25 : v25 = Value.bool true := hd 25 v25 (by kernel_rfl) rfl
      subst d25
      have d27 : v27 = Value.agg #[Value.int IntKind.i64 lx, Value.int IntKind.u32 lp] := hd 27 v27 (by kernel_rfl) rfl
      subst d27
      have d29 : v29 = Value.agg #[Value.int IntKind.i64 lx, Value.int IntKind.u32 lp] := hd 29 v29 (by kernel_rfl) rfl
      subst d29
      clear hd
      rw [if_pos (by kernel_rfl)]
      simp only [puts, Act.put, List.setIfInBounds_toArray, List.set_cons_zero, List.set_cons_succ] at hK ⊢
      have e24 := eq24r
      go_simp
      exact hK _ _ (Below.refl _ _) rfl hg
    refine Each.cons (fun vs W hl => ?_) ?_
    · apply with45 hl
      clear hl vs
      intro v0 v1 v2 v3 v4 v5 v6 v7 v8 v9 v10 v11 v12 v13 v14 v15 v16 v17 v18 v19 v20 v21 v22 v23 v24 v25 v26 v27 v28 v29 v30 v31 v32 v33 v34 v35 v36 v37 v38 v39 v40 v41 v42 v43 v44 hg hd K hK
      have d25 : v25 = Value.bool true := hd 25 v25 (by kernel_rfl) rfl
      subst d25
      have d30 : v30 = Value.bool true := hd 30 v30 (by kernel_rfl) rfl
      subst d30
      clear hd
      rw [if_pos (by kernel_rfl)]
      simp only [puts, Act.put, List.setIfInBounds_toArray, List.set_cons_zero, List.set_cons_succ] at hK ⊢
      go_simp
      exact hK _ _ (Below.refl _ _) rfl hg
    refine Each.cons (fun vs W hl => ?_) ?_
    · apply with45 hl
      clear hl vs
      intro v0 v1 v2 v3 v4 v5 v6 v7 v8 v9 v10 v11 v12 v13 v14 v15 v16 v17 v18 v19 v20 v21 v22 v23 v24 v25 v26 v27 v28 v29 v30 v31 v32 v33 v34 v35 v36 v37 v38 v39 v40 v41 v42 v43 v44 hg hd K hK
      have d31 : v31 = Value.bool true := hd 31 v31 (by kernel_rfl) rfl
      subst d31
      clear hd
      rw [if_pos (by kernel_rfl)]
      simp only [puts, Act.put, List.setIfInBounds_toArray, List.set_cons_zero, List.set_cons_succ] at hK ⊢
      go_simp
      exact hK _ _ (Below.refl _ _) rfl hg
    refine Each.cons (fun vs W hl => ?_) ?_
    · apply with45 hl
      clear hl vs
      intro v0 v1 v2 v3 v4 v5 v6 v7 v8 v9 v10 v11 v12 v13 v14 v15 v16 v17 v18 v19 v20 v21 v22 v23 v24 v25 v26 v27 v28 v29 v30 v31 v32 v33 v34 v35 v36 v37 v38 v39 v40 v41 v42 v43 v44 hg hd K hK
      have d32 : v32 = Value.bool true := hd 32 v32 (by kernel_rfl) rfl
      subst d32
      clear hd
      rw [if_pos (by kernel_rfl)]
      simp only [puts, Act.put, List.setIfInBounds_toArray, List.set_cons_zero, List.set_cons_succ] at hK ⊢
      have c0 := hg.a.c0
      have c1 := hg.a.c1
      go_simp
      exact hK _ _ (Below.refl _ _) rfl hg
    refine Each.cons (fun vs W hl => ?_) ?_
    · apply with45 hl
      clear hl vs
      intro v0 v1 v2 v3 v4 v5 v6 v7 v8 v9 v10 v11 v12 v13 v14 v15 v16 v17 v18 v19 v20 v21 v22 v23 v24 v25 v26 v27 v28 v29 v30 v31 v32 v33 v34 v35 v36 v37 v38 v39 v40 v41 v42 v43 v44 hg hd K hK
      have d32 : v32 = Value.bool true := hd 32 v32 (by kernel_rfl) rfl
      subst d32
      clear hd
      rw [if_pos (by kernel_rfl)]
      simp only [puts, Act.put, List.setIfInBounds_toArray, List.set_cons_zero, List.set_cons_succ] at hK ⊢
      have c0 := hg.b.c0
      have c1 := hg.b.c1
      go_simp
      exact hK _ _ (Below.refl _ _) rfl hg
    refine Each.cons (fun vs W hl => ?_) ?_
    · apply with45 hl
      clear hl vs
      intro v0 v1 v2 v3 v4 v5 v6 v7 v8 v9 v10 v11 v12 v13 v14 v15 v16 v17 v18 v19 v20 v21 v22 v23 v24 v25 v26 v27 v28 v29 v30 v31 v32 v33 v34 v35 v36 v37 v38 v39 v40 v41 v42 v43 v44 hg hd K hK
      have d32 : v32 = Value.bool true := hd 32 v32 (by kernel_rfl) rfl
      subst d32
      have d33 : v33 = Value.agg #[Value.int IntKind.i64 x, Value.int IntKind.u32 p] := hd 33 v33 (by kernel_rfl) rfl
      subst d33
      have d34 : v34 = Value.agg #[Value.int IntKind.i64 y, Value.int IntKind.u32 q] := hd 34 v34 (by kernel_rfl) rfl
      subst d34
      clear hd
      rw [if_pos (by kernel_rfl)]
      simp only [puts, Act.put, List.setIfInBounds_toArray, List.set_cons_zero, List.set_cons_succ] at hK ⊢
      go_simp
      refine (M15.out _).mono ?_
      rintro e w' ⟨rfl, hk⟩
      exact hK _ _ hk rfl (hg.call hk)
    refine Each.cons (fun vs W hl => ?_) ?_
    · apply with45 hl
      clear hl vs
      intro v0 v1 v2 v3 v4 v5 v6 v7 v8 v9 v10 v11 v12 v13 v14 v15 v16 v17 v18 v19 v20 v21 v22 v23 v24 v25 v26 v27 v28 v29 v30 v31 v32 v33 v34 v35 v36 v37 v38 v39 v40 v41 v42 v43 v44 hg hd K hK
      have d32 : v32 = Value.bool true := hd 32 v32 (by kernel_rfl) rfl
      subst d32
      clear hd
      rw [if_pos (by kernel_rfl)]
      simp only [puts, Act.put, List.setIfInBounds_toArray, List.set_cons_zero, List.set_cons_succ] at hK ⊢
      have c0 := hg.a.c0
      have c1 := hg.a.c1
      go_simp
      exact hK _ _ (Below.refl _ _) rfl hg
    refine Each.cons (fun vs W hl => ?_) ?_
    · apply with45 hl
      clear hl vs
      intro v0 v1 v2 v3 v4 v5 v6 v7 v8 v9 v10 v11 v12 v13 v14 v15 v16 v17 v18 v19 v20 v21 v22 v23 v24 v25 v26 v27 v28 v29 v30 v31 v32 v33 v34 v35 v36 v37 v38 v39 v40 v41 v42 v43 v44 hg hd K hK
      have d32 : v32 = Value.bool true := hd 32 v32 (by kernel_rfl) rfl
      subst d32
      clear hd
      rw [if_pos (by kernel_rfl)]
      simp only [puts, Act.put, List.setIfInBounds_toArray, List.set_cons_zero, List.set_cons_succ] at hK ⊢
      have c0 := hg.b.c0
      have c1 := hg.b.c1
      go_simp
      exact hK _ _ (Below.refl _ _) rfl hg
    refine Each.cons (fun vs W hl => ?_) ?_
    · apply with45 hl
      clear hl vs
      intro v0 v1 v2 v3 v4 v5 v6 v7 v8 v9 v10 v11 v12 v13 v14 v15 v16 v17 v18 v19 v20 v21 v22 v23 v24 v25 v26 v27 v28 v29 v30 v31 v32 v33 v34 v35 v36 v37 v38 v39 v40 v41 v42 v43 v44 hg hd K hK
      have d32 : v32 = Value.bool true := hd 32 v32 (by kernel_rfl) rfl
      subst d32
      have d36 : v36 = Value.agg #[Value.int IntKind.i64 x, Value.int IntKind.u32 p] := hd 36 v36 (by kernel_rfl) rfl
      subst d36
      have d37 : v37 = Value.agg #[Value.int IntKind.i64 y, Value.int IntKind.u32 q] := hd 37 v37 (by kernel_rfl) rfl
      subst d37
      clear hd
      rw [if_pos (by kernel_rfl)]
      simp only [puts, Act.put, List.setIfInBounds_toArray, List.set_cons_zero, List.set_cons_succ] at hK ⊢
      go_simp
      refine (M16.out _).mono ?_
      rintro e w' ⟨rfl, hk⟩
      exact hK _ _ hk rfl (hg.call hk)
    refine Each.cons (fun vs W hl => ?_) ?_
    · apply with45 hl
      clear hl vs
      intro v0 v1 v2 v3 v4 v5 v6 v7 v8 v9 v10 v11 v12 v13 v14 v15 v16 v17 v18 v19 v20 v21 v22 v23 v24 v25 v26 v27 v28 v29 v30 v31 v32 v33 v34 v35 v36 v37 v38 v39 v40 v41 v42 v43 v44 hg hd K hK
      have d32 : v32 = Value.bool true := hd 32 v32 (by kernel_rfl) rfl
      subst d32
      have d35 : v35 = Value.agg #[Value.int IntKind.i64 mx, Value.int IntKind.u32 mp] := hd 35 v35 (by kernel_rfl) rfl
      subst d35
      have d38 : v38 = Value.agg #[Value.int IntKind.i64 mx, Value.int IntKind.u32 mp] := hd 38 v38 (by kernel_rfl) rfl
      subst d38
      clear hd
      rw [if_pos (by kernel_rfl)]
      simp only [puts, Act.put, List.setIfInBounds_toArray, List.set_cons_zero, List.set_cons_succ] at hK ⊢
      have e24 := eq24r
      go_simp
      exact hK _ _ (Below.refl _ _) rfl hg
    refine Each.cons (fun vs W hl => ?_) ?_
    · apply with45 hl
      clear hl vs
      intro v0 v1 v2 v3 v4 v5 v6 v7 v8 v9 v10 v11 v12 v13 v14 v15 v16 v17 v18 v19 v20 v21 v22 v23 v24 v25 v26 v27 v28 v29 v30 v31 v32 v33 v34 v35 v36 v37 v38 v39 v40 v41 v42 v43 v44 hg hd K hK
      have d32 : v32 = Value.bool true := hd 32 v32 (by kernel_rfl) rfl
      subst d32
      have d39 : v39 = Value.bool true := hd 39 v39 (by kernel_rfl) rfl
      subst d39
      clear hd
      rw [if_pos (by kernel_rfl)]
      simp only [puts, Act.put, List.setIfInBounds_toArray, List.set_cons_zero, List.set_cons_succ] at hK ⊢
      go_simp
      exact hK _ _ (Below.refl _ _) rfl hg
    refine Each.cons (fun vs W hl => ?_) ?_
    · apply with45 hl
      clear hl vs
      intro v0 v1 v2 v3 v4 v5 v6 v7 v8 v9 v10 v11 v12 v13 v14 v15 v16 v17 v18 v19 v20 v21 v22 v23 v24 v25 v26 v27 v28 v29 v30 v31 v32 v33 v34 v35 v36 v37 v38 v39 v40 v41 v42 v43 v44 hg hd K hK
      have d40 : v40 = Value.bool true := hd 40 v40 (by kernel_rfl) rfl
      subst d40
      clear hd
      rw [if_pos (by kernel_rfl)]
      simp only [puts, Act.put, List.setIfInBounds_toArray, List.set_cons_zero, List.set_cons_succ] at hK ⊢
      go_simp
      exact hK _ _ (Below.refl _ _) rfl hg
    refine Each.cons (fun vs W hl => ?_) ?_
    · apply with45 hl
      clear hl vs
      intro v0 v1 v2 v3 v4 v5 v6 v7 v8 v9 v10 v11 v12 v13 v14 v15 v16 v17 v18 v19 v20 v21 v22 v23 v24 v25 v26 v27 v28 v29 v30 v31 v32 v33 v34 v35 v36 v37 v38 v39 v40 v41 v42 v43 v44 hg hd K hK
      have d41 : v41 = Value.bool true := hd 41 v41 (by kernel_rfl) rfl
      subst d41
      clear hd
      rw [if_pos (by kernel_rfl)]
      simp only [puts, Act.put, List.setIfInBounds_toArray, List.set_cons_zero, List.set_cons_succ] at hK ⊢
      go_simp
      refine (WK.out _).mono ?_
      rintro e w' ⟨rfl, hk⟩
      exact hK _ _ hk rfl (hg.call hk)
    refine Each.cons (fun vs W hl => ?_) ?_
    · apply with45 hl
      clear hl vs
      intro v0 v1 v2 v3 v4 v5 v6 v7 v8 v9 v10 v11 v12 v13 v14 v15 v16 v17 v18 v19 v20 v21 v22 v23 v24 v25 v26 v27 v28 v29 v30 v31 v32 v33 v34 v35 v36 v37 v38 v39 v40 v41 v42 v43 v44 hg hd K hK
      have d41 : v41 = Value.bool true := hd 41 v41 (by kernel_rfl) rfl
      subst d41
      have d42 : v42 = Value.bool true := hd 42 v42 (by kernel_rfl) rfl
      subst d42
      clear hd
      rw [if_pos (by kernel_rfl)]
      simp only [puts, Act.put, List.setIfInBounds_toArray, List.set_cons_zero, List.set_cons_succ] at hK ⊢
      go_simp
      exact hK _ _ (Below.refl _ _) rfl hg
    refine Each.cons (fun vs W hl => ?_) ?_
    · apply with45 hl
      clear hl vs
      intro v0 v1 v2 v3 v4 v5 v6 v7 v8 v9 v10 v11 v12 v13 v14 v15 v16 v17 v18 v19 v20 v21 v22 v23 v24 v25 v26 v27 v28 v29 v30 v31 v32 v33 v34 v35 v36 v37 v38 v39 v40 v41 v42 v43 v44 hg hd K hK
      have d43 : v43 = Value.bool true := hd 43 v43 (by kernel_rfl) rfl
      subst d43
      clear hd
      rw [if_pos (by kernel_rfl)]
      simp only [puts, Act.put, List.setIfInBounds_toArray, List.set_cons_zero, List.set_cons_succ] at hK ⊢
      go_simp
      exact hK _ _ (Below.refl _ _) rfl hg
    exact Each.nil
  · intro vs W hl
    apply with45 hl
    clear hl vs
    intro v0 v1 v2 v3 v4 v5 v6 v7 v8 v9 v10 v11 v12 v13 v14 v15 v16 v17 v18 v19 v20 v21 v22 v23 v24 v25 v26 v27 v28 v29 v30 v31 v32 v33 v34 v35 v36 v37 v38 v39 v40 v41 v42 v43 v44 hg hall
    have d0 : v0 = Value.agg #[Value.int IntKind.i64 x, Value.int IntKind.u32 p] := hall 0 v0 rfl
    subst d0
    have d1 : v1 = Value.int IntKind.i64 ce := hall 1 v1 rfl
    subst d1
    have d2 : v2 = Value.agg #[Value.int IntKind.i64 x, Value.int IntKind.u32 p] := hall 2 v2 rfl
    subst d2
    have d3 : v3 = Value.int IntKind.i64 ce := hall 3 v3 rfl
    subst d3
    have d4 : v4 = Value.bool true := hall 4 v4 rfl
    subst d4
    have d5 : v5 = Value.bool true := hall 5 v5 rfl
    subst d5
    have d6 : v6 = Value.agg #[Value.int IntKind.i64 x, Value.int IntKind.u32 p] := hall 6 v6 rfl
    subst d6
    have d7 : v7 = Value.agg #[Value.int IntKind.i64 y, Value.int IntKind.u32 q] := hall 7 v7 rfl
    subst d7
    have d8 : v8 = Value.bool fab := hall 8 v8 rfl
    subst d8
    have d9 : v9 = Value.agg #[Value.int IntKind.i64 x, Value.int IntKind.u32 p] := hall 9 v9 rfl
    subst d9
    have d10 : v10 = Value.agg #[Value.int IntKind.i64 y, Value.int IntKind.u32 q] := hall 10 v10 rfl
    subst d10
    have d11 : v11 = Value.bool fab := hall 11 v11 rfl
    subst d11
    have d12 : v12 = Value.bool true := hall 12 v12 rfl
    subst d12
    have d13 : v13 = Value.bool true := hall 13 v13 rfl
    subst d13
    have d14 : v14 = Value.bool true := hall 14 v14 rfl
    subst d14
    have d15 : v15 = Value.agg #[Value.int IntKind.i64 x, Value.int IntKind.u32 p] := hall 15 v15 rfl
    subst d15
    have d16 : v16 = Value.agg #[Value.int IntKind.i64 y, Value.int IntKind.u32 q] := hall 16 v16 rfl
    subst d16
    have d17 : Ls W v17 [(x, p), (y, q)] := hall 17 v17 rfl
    have d18 : v18 = Value.agg #[Value.int IntKind.i64 jx, Value.int IntKind.u32 jp] := hall 18 v18 rfl
    subst d18
    have d19 : v19 = Value.agg #[Value.int IntKind.i64 x, Value.int IntKind.u32 p] := hall 19 v19 rfl
    subst d19
    have d20 : v20 = Value.agg #[Value.int IntKind.i64 y, Value.int IntKind.u32 q] := hall 20 v20 rfl
    subst d20
    have d21 : Ls W v21 [(x, p), (y, q)] := hall 21 v21 rfl
    have d22 : v22 = Value.agg #[Value.int IntKind.i64 jx, Value.int IntKind.u32 jp] := hall 22 v22 rfl
    subst d22
    have d23 : v23 = Value.bool true := hall 23 v23 rfl
    subst d23
    have d24 : v24 = Value.bool true := hall 24 v24 rfl
    subst d24
    have d25 : v25 = Value.bool true := hall 25 v25 rfl
    subst d25
    have d26 : v26 = Value.slice la n cap := hall 26 v26 rfl
    subst d26
    have d27 : v27 = Value.agg #[Value.int IntKind.i64 lx, Value.int IntKind.u32 lp] := hall 27 v27 rfl
    subst d27
    have d28 : v28 = Value.slice la n cap := hall 28 v28 rfl
    subst d28
    have d29 : v29 = Value.agg #[Value.int IntKind.i64 lx, Value.int IntKind.u32 lp] := hall 29 v29 rfl
    subst d29
    have d30 : v30 = Value.bool true := hall 30 v30 rfl
    subst d30
    have d31 : v31 = Value.bool true := hall 31 v31 rfl
    subst d31
    have d32 : v32 = Value.bool true := hall 32 v32 rfl
    subst d32
    have d33 : v33 = Value.agg #[Value.int IntKind.i64 x, Value.int IntKind.u32 p] := hall 33 v33 rfl
    subst d33
    have d34 : v34 = Value.agg #[Value.int IntKind.i64 y, Value.int IntKind.u32 q] := hall 34 v34 rfl
    subst d34
    have d35 : v35 = Value.agg #[Value.int IntKind.i64 mx, Value.int IntKind.u32 mp] := hall 35 v35 rfl
    subst d35
    have d36 : v36 = Value.agg #[Value.int IntKind.i64 x, Value.int IntKind.u32 p] := hall 36 v36 rfl
    subst d36
    have d37 : v37 = Value.agg #[Value.int IntKind.i64 y, Value.int IntKind.u32 q] := hall 37 v37 rfl
    subst d37
    have d38 : v38 = Value.agg #[Value.int IntKind.i64 mx, Value.int IntKind.u32 mp] := hall 38 v38 rfl
    subst d38
    have d39 : v39 = Value.bool true := hall 39 v39 rfl
    subst d39
    have d40 : v40 = Value.bool true := hall 40 v40 rfl
    subst d40
    have d41 : v41 = Value.bool true := hall 41 v41 rfl
    subst d41
    have d42 : v42 = Value.bool true := hall 42 v42 rfl
    subst d42
    have d43 : v43 = Value.bool true := hall 43 v43 rfl
    subst d43
    have d44 : v44 = Value.bool true := hall 44 v44 rfl
    subst d44
    clear hall
    simp only [puts, Act.put, List.setIfInBounds_toArray, List.set_cons_zero, List.set_cons_succ, List.take_succ_cons, List.take_zero, List.drop_succ_cons, List.drop_zero]
    have HE := hd hg.bel
    clear hg
    clear d17 d21
    go_wp2_with fail
    go_ret
    exact VEnd.mk HE.out

end Go.Proofs.Ytcgimbomandjfaa
