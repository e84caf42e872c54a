/- ValueReads: the law's walk. -/
import Derived.Test.YtibnjhnecfcimaaWkv
import Derived.Test.YtibnjhnecfcimaaTky
import Derived.Test.YtibnjhnecfcimaaVs
namespace Go.Proofs.Ytibnjhnecfcimaa
open Go.RowKit
set_option linter.unusedVariables false

theorem OwA.kp2 {B rb : Nat} {w w' : World} {v : Value} {xs : List AttrD} (h : OwA B w v xs) (k : Kp (fun b => b = rb) w w') (hb : ∀ g, v.ownBlock = some g → g ≠ rb) : OwA B w' v xs :=
  ⟨h.1, h.2.kept (row := some rb) ⟨k.os, k.tape, k.output, k.size, fun i hi hn => k.block i hi (fun e => hn (by rw [e]))⟩ (by
    cases hv : v.ownBlock with
    | none => exact Or.inl rfl
    | some g => refine Or.inr fun e => ?_; injection e with e; exact hb g hv e)⟩
theorem left_agr {α : Type} {a b : α × List Int × Int} (h : Agr a b) : leftOf b.2.1 b.2.2 = leftOf a.2.1 a.2.2 := by
  obtain ⟨_, h2, h3⟩ := h
  rw [← h2]
  unfold leftOf
  by_cases he : a.2.2 = 0
  · rw [if_pos he, if_pos he, h3 he]
  · rw [if_neg he, if_neg he]

set_option maxRecDepth 100000 in
set_option maxHeartbeats 8000000 in
theorem reads_walk (w : World) (b : Value) (L : List Int) (hb : Bx w.heap.size w b L) (hl : Byt L) :
    Calls Try.prog 4 #[b] w fun e w' => VEnd w (.bool true) e w' := by
  obtain ⟨⟨k, m, s⟩, l1, e1, h1⟩ : ∃ v l e, takeV L 0 = (v, l, e) := ⟨_, _, _, rfl⟩
  obtain ⟨xs, l2, e2, h2⟩ : ∃ v l e, takeAs L 0 = (v, l, e) := ⟨_, _, _, rfl⟩
  have g1 := takeV_agree L L 0 (fun _ => rfl)
  have g2 := takeAs_agree L L 0 (fun _ => rfl)
  have y1 := left_agr g1
  have y2 := left_agr g2
  obtain ⟨p1, p2, p3⟩ := g1
  obtain ⟨p4, p5, p6⟩ := g2
  rw [h1] at p1 p2 y1
  rw [h2] at p4 p5 y2
  simp only at p1 p2 p4 p5 y1 y2
  rw [← p2] at y1
  rw [← p5] at y2
  have X1 : Hid (xTakeV L 0 = ((k, m, s), (xTakeV L 0).2.1, e1)) := hd (by rw [p1, p2])
  have X2 : Hid (xTakeAs L 0 = (xs, (xTakeAs L 0).2.1, e2)) := hd (by rw [p4, p5])
  generalize (xTakeV L 0).2.1 = j1 at *
  generalize (xTakeAs L 0).2.1 = j2 at *
  obtain ⟨a1, ha1⟩ : ∃ q, leftOf l1 e1 = q := ⟨_, rfl⟩
  obtain ⟨a2, ha2⟩ : ∃ q, leftOf l2 e2 = q := ⟨_, rfl⟩
  rw [ha1] at y1
  rw [ha2] at y2
  have A1 := hd ha1; have A2 := hd ha2; have Y1 := hd y1; have Y2 := hd y2
  have H1 := hd h1; have H2 := hd h2; have HL := hd hl; have HB := hd hb
  clear h1 h2 hl hb p1 p2 p3 p4 p5 p6 y1 y2 ha1 ha2
  go_enter Try.func4, Try.ntmps4
  go_wp2_with fail
  refine (New_bx HB.out).mono ?_
  rintro e w1 ⟨r1, rfl, hle, hr, hk⟩
  have B1 := hd hk
  have R1 := hd hr
  have HLE1 := hd hle
  have HR1 := hd hr.lt
  clear hk hr hle
  generalize hn1 : w1.heap.size = N2 at *
  have HN1 := hd hn1
  clear hn1
  go_wp2_with fail
  refine (NewX_of (copy_bx (HB.out.keep B1.out))).mono ?_
  rintro e w2 ⟨q1, rfl, hle, hr, hk⟩
  have B2 := hd (below_below B1.out hk)
  have R2 := hd (R1.out.keep hk)
  rw [HN1.out] at hle hr
  have Q2 := hd hr
  have HLE2 := hd hle
  have HQ1 := hd hr.lt
  clear hk hr hle B1 R1 HN1
  go_wp2_with fail
  refine (TakeV_is R2.out HLE1.out HL.out).mono ?_
  rw [H1.out]
  rintro e w3 ⟨rfl, hr, hk⟩
  simp only at hr ⊢
  have R3 := hd hr
  have Q3 := hd (Q2.out.keepO hk (Or.inl (by have := HR1.out; omega)) HLE2.out)
  have B3 := hd (B2.out.trans (hk.below w.heap.size B2.out.size (fun j hj e => by have := HLE1.out; have e2 : j = r1 := e; omega)))
  have HZ3 := hd hk.size
  clear hr hk R2 Q2 B2
  go_wp2_with fail
  refine (TakeVX_is Q3.out HLE2.out HL.out).mono ?_
  rw [X1.out]
  rintro e w4 ⟨rfl, hr, hk⟩
  simp only at hr ⊢
  have Q4 := hd hr
  have R4 := hd (R3.out.keepO hk (Or.inr (by have := HR1.out; have := HLE2.out; omega)) HLE1.out)
  have B4 := hd (B3.out.trans (hk.below w.heap.size B3.out.size (fun j hj e => by have := HLE2.out; have := HLE1.out; have := HR1.out; have e2 : j = q1 := e; omega)))
  clear hr hk R3 Q3 B3 HZ3
  go_wp2_with fail
  have V1 := Bk.new w4 23 #[Value.int IntKind.i64 k, Value.int IntKind.i64 m, Value.string s]
  have NB := below1 w4 (Obj.cells #[Value.int IntKind.i64 k, Value.int IntKind.i64 m, Value.string s] 23)
  have z1 : (w4.alloc (Obj.cells #[Value.int IntKind.i64 k, Value.int IntKind.i64 m, Value.string s] 23)).heap.size = w4.heap.size + 1 := by simp
  generalize w4.alloc (Obj.cells #[Value.int IntKind.i64 k, Value.int IntKind.i64 m, Value.string s] 23) = w5 at *
  have V2 := Bk.new w5 23 #[Value.int IntKind.i64 k, Value.int IntKind.i64 m, Value.string s]
  have NB2 := below1 w5 (Obj.cells #[Value.int IntKind.i64 k, Value.int IntKind.i64 m, Value.string s] 23)
  replace V1 := V1.keep NB2
  replace NB := below_below NB NB2
  rw [z1] at V2
  generalize w5.alloc (Obj.cells #[Value.int IntKind.i64 k, Value.int IntKind.i64 m, Value.string s] 23) = w6 at *
  have R6 := hd (R4.out.keep NB)
  have Q6 := hd (Q4.out.keepB NB)
  have B6 := hd (below_below B4.out NB)
  have HVG := hd (And.intro V1.lt V2.lt)
  have HV1 := hd V1
  have HV2 := hd V2
  clear V1 V2 NB NB2 z1 R4 Q4 B4
  generalize w4.heap.size = gv at *
  refine (New_bx (HB.out.keep B6.out)).mono ?_
  rintro e w7 ⟨r2, rfl, hle, hr, hk⟩
  have B7 := hd (below_below B6.out hk)
  have R7 := hd (R6.out.keep hk)
  have Q7 := hd (Q6.out.keepB hk)
  have S7 := hd hr
  have V7 := hd (HV1.out.keep hk)
  have U7 := hd (HV2.out.keep hk)
  have HLE3 := hd hle
  have HR2 := hd hr.lt
  have HRQ := hd (And.intro R6.out.lt Q6.out.lt)
  have HW6 := hd B6.out.size
  clear hk hr hle B6 R6 Q6 HV1 HV2
  generalize w6.heap.size = N3 at *
  generalize hn1 : w7.heap.size = N4 at *
  have HN1 := hd hn1
  clear hn1
  go_wp2_with fail
  refine (NewX_of (copy_bx (HB.out.keep B7.out))).mono ?_
  rintro e w8 ⟨q2, rfl, hle, hr, hk⟩
  have B8 := hd (below_below B7.out hk)
  have R8 := hd (R7.out.keep hk)
  have Q8 := hd (Q7.out.keepB hk)
  have S8 := hd (S7.out.keep hk)
  have V8 := hd (V7.out.keep hk)
  have U8 := hd (U7.out.keep hk)
  rw [HN1.out] at hle hr
  have T8 := hd hr
  have HLE4 := hd hle
  clear hk hr hle B7 R7 Q7 S7 V7 U7 HN1
  go_wp2_with fail
  refine (TakeL_is S8.out HLE3.out HL.out).mono ?_
  rw [H2.out]
  rintro e w9 ⟨v9, rfl, ho, hr, hk⟩
  obtain ⟨x9, c9, hv9⟩ := ho.form
  subst hv9
  have S9 := hd hr
  have M9 := hd ho
  have HT8 := hd T8.out.lt
  have T9 := hd (T8.out.keepO hk (Or.inl (by have := HR2.out; omega)) HLE4.out)
  have R9 := hd (R8.out.keepO hk (Or.inr (by have := HRQ.out; have := HLE3.out; omega)) HLE1.out)
  have Q9 := hd (Q8.out.keepO hk (Or.inr (by have := HRQ.out; have := HLE3.out; omega)) HLE2.out)
  have V9 := hd (hk.bk V8.out (by have := HVG.out; have := HLE3.out; omega))
  have U9 := hd (hk.bk U8.out (by have := HVG.out; have := HLE3.out; omega))
  have B9 := hd (B8.out.trans (hk.below w.heap.size B8.out.size (fun j hj e => by have := HLE3.out; have := HW6.out; have e2 : j = r2 := e; omega)))
  clear hr hk ho S8 T8 R8 Q8 V8 U8 B8
  obtain ⟨z, hz⟩ : ∃ z, xs.length = z := ⟨_, rfl⟩
  have HZ := hd hz
  have hz' : (xs, l2, e2).1.length = z := hz
  rw [hz'] at M9 ⊢
  clear hz hz'
  go_wp2_with fail
  refine (TakeLX_is T9.out HLE4.out HL.out).mono ?_
  rw [X2.out]
  rintro e w10 ⟨v10, rfl, ho, hr, hk⟩
  obtain ⟨x10, c10, hv10⟩ := ho.form
  subst hv10
  have T10 := hd hr
  have O10 := hd ho.el
  have M10 := hd ((M9.out.kp2 hk (fun g hg => by have h1 := M9.out.2.lt g hg; have h2 := HT8.out; omega)).el)
  have S10 := hd (S9.out.keepO hk (Or.inr (by have := HR2.out; have := HLE4.out; omega)) HLE3.out)
  have R10 := hd (R9.out.keepO hk (Or.inr (by have := HRQ.out; have := HLE3.out; have := HR2.out; have := HLE4.out; omega)) HLE1.out)
  have Q10 := hd (Q9.out.keepO hk (Or.inr (by have := HRQ.out; have := HLE3.out; have := HR2.out; have := HLE4.out; omega)) HLE2.out)
  have V10 := hd (hk.bk V9.out (by have := HVG.out; have := HLE3.out; have := HR2.out; have := HLE4.out; omega))
  have U10 := hd (hk.bk U9.out (by have := HVG.out; have := HLE3.out; have := HR2.out; have := HLE4.out; omega))
  have B10 := hd (B9.out.trans (hk.below w.heap.size B9.out.size (fun j hj e => by have := HLE3.out; have := HW6.out; have := HR2.out; have := HLE4.out; have e2 : j = q2 := e; omega)))
  clear hr hk ho S9 T9 R9 Q9 V9 U9 B9 M9
  have hz' : (xs, j2, e2).1.length = z := HZ.out
  rw [hz'] at O10 ⊢
  clear hz'
  go_wp2_with fail
  refine wp_region_each 43 (fun W W' => Below W.heap.size W W') (fun i v W => match i with | 0 => v = Value.agg #[Value.int IntKind.i64 k, Value.int IntKind.i64 m, Value.string s] | 1 => v = Value.agg #[Value.int IntKind.i64 k, Value.int IntKind.i64 m, Value.string s] | 2 => v = Value.bool true | 3 => v = Value.bool true | 4 => v = Value.pointer (some ⟨r1, 0, none⟩) | 5 => v = Value.int IntKind.i64 e1 | 6 => v = Value.pointer (some ⟨q1, 0, none⟩) | 7 => v = Value.pointer (some ⟨q1, 0, none⟩) | 8 => v = Value.pointer (some ⟨q1, 1, none⟩) | 9 => v = Value.int IntKind.i64 e1 | 10 => v = Value.bool true | 11 => v = Value.bool true | 12 => v = Value.bool true | 13 => v = Value.pointer (some ⟨r1, 0, none⟩) | 14 => v = Value.int IntKind.i64 a1 | 15 => v = Value.pointer (some ⟨q1, 0, none⟩) | 16 => v = Value.int IntKind.i64 a1 | 17 => v = Value.bool true | 18 => v = Value.bool true | 19 => v = Value.bool true | 20 => v = Value.slice x9 z c9 | 21 => v = Value.slice x10 z c10 | 22 => v = Value.bool true | 23 => v = Value.bool true | 24 => v = Value.bool true | 25 => v = Value.pointer (some ⟨r2, 0, none⟩) | 26 => v = Value.int IntKind.i64 e2 | 27 => v = Value.pointer (some ⟨q2, 0, none⟩) | 28 => v = Value.pointer (some ⟨q2, 0, none⟩) | 29 => v = Value.pointer (some ⟨q2, 1, none⟩) | 30 => v = Value.int IntKind.i64 e2 | 31 => v = Value.bool true | 32 => v = Value.bool true | 33 => v = Value.bool true | 34 => v = Value.pointer (some ⟨r2, 0, none⟩) | 35 => v = Value.int IntKind.i64 a2 | 36 => v = Value.pointer (some ⟨q2, 0, none⟩) | 37 => v = Value.int IntKind.i64 a2 | 38 => v = Value.bool true | 39 => v = Value.bool true | 40 => v = Value.bool true | 41 => v = Value.bool true | 42 => v = Value.bool true | _ => True) (fun vs W => Below w10.heap.size w10 W) (by kernel_rfl) (by kernel_rfl) (fun j v W W' hE h => by
      match j with
      | 0 => exact h
      | 1 => exact h
      | 2 => exact h
      | 3 => exact h
      | 4 => exact h
      | 5 => exact h
      | 6 => exact h
      | 7 => exact h
      | 8 => exact h
      | 9 => exact h
      | 10 => exact h
      | 11 => exact h
      | 12 => exact h
      | 13 => exact h
      | 14 => exact h
      | 15 => exact h
      | 16 => exact h
      | 17 => exact h
      | 18 => exact h
      | 19 => exact h
      | 20 => exact h
      | 21 => exact h
      | 22 => exact h
      | 23 => exact h
      | 24 => exact h
      | 25 => exact h
      | 26 => exact h
      | 27 => exact h
      | 28 => exact h
      | 29 => exact h
      | 30 => exact h
      | 31 => exact h
      | 32 => exact h
      | 33 => exact h
      | 34 => exact h
      | 35 => exact h
      | 36 => exact h
      | 37 => exact h
      | 38 => exact h
      | 39 => exact h
      | 40 => exact h
      | 41 => exact h
      | 42 => exact h
      | _ + 43 => trivial) (by exact (Below.refl _ _).drew) ?_ ?_
  · simp only [List.take_succ_cons, List.take_zero]
    refine Each.cons (fun vs W hl => ?_) ?_
    · apply with43 hl
      clear hl vs
      intro v0 v1 v2 v3 v4 v5 v6 v7 v8 v9 v10 v11 v12 v13 v14 v15 v16 v17 v18 v19 v20 v21 v22 v23 v24 v25 v26 v27 v28 v29 v30 v31 v32 v33 v34 v35 v36 v37 v38 v39 v40 v41 v42 hg hnew hd K hK
      clear hd
      clear hnew
      rw [if_pos (by kernel_rfl)]
      simp only [puts, Act.put, List.setIfInBounds_toArray, List.set_cons_zero, List.set_cons_succ] at hK ⊢
      have c := V10.out.keep hg
      have c0 := c.cell 0
      have c1 := c.cell 1
      have c2 := c.cell 2
      simp at c0 c1 c2
      go_simp
      exact hK _ _ (Below.refl _ _) rfl hg
    refine Each.cons (fun vs W hl => ?_) ?_
    · apply with43 hl
      clear hl vs
      intro v0 v1 v2 v3 v4 v5 v6 v7 v8 v9 v10 v11 v12 v13 v14 v15 v16 v17 v18 v19 v20 v21 v22 v23 v24 v25 v26 v27 v28 v29 v30 v31 v32 v33 v34 v35 v36 v37 v38 v39 v40 v41 v42 hg hnew hd K hK
      clear hd
      clear hnew
      rw [if_pos (by kernel_rfl)]
      simp only [puts, Act.put, List.setIfInBounds_toArray, List.set_cons_zero, List.set_cons_succ] at hK ⊢
      have c := U10.out.keep hg
      have c0 := c.cell 0
      have c1 := c.cell 1
      have c2 := c.cell 2
      simp at c0 c1 c2
      go_simp
      exact hK _ _ (Below.refl _ _) rfl hg
    refine Each.cons (fun vs W hl => ?_) ?_
    · apply with43 hl
      clear hl vs
      intro v0 v1 v2 v3 v4 v5 v6 v7 v8 v9 v10 v11 v12 v13 v14 v15 v16 v17 v18 v19 v20 v21 v22 v23 v24 v25 v26 v27 v28 v29 v30 v31 v32 v33 v34 v35 v36 v37 v38 v39 v40 v41 v42 hg hnew hd K hK
      have d0 : v0 = Value.agg #[Value.int IntKind.i64 k, Value.int IntKind.i64 m, Value.string s] := hd 0 v0 (by kernel_rfl) rfl
      subst d0
      have d1 : v1 = Value.agg #[Value.int IntKind.i64 k, Value.int IntKind.i64 m, Value.string s] := hd 1 v1 (by kernel_rfl) rfl
      subst d1
      clear hd
      clear hnew
      rw [if_pos (by kernel_rfl)]
      simp only [puts, Act.put, List.setIfInBounds_toArray, List.set_cons_zero, List.set_cons_succ] at hK ⊢
      have e24 : ∀ W : World, (Op.equalIn 10000 23 (Value.agg #[Value.int IntKind.i64 k, Value.int IntKind.i64 m, Value.string s]) (Value.agg #[Value.int IntKind.i64 k, Value.int IntKind.i64 m, Value.string s])).run Try.prog W = .ok true W := fun W => by rw [eq23, sameV_self]
      go_simp
      exact hK _ _ (Below.refl _ _) (by first | rfl | simp) hg
    refine Each.cons (fun vs W hl => ?_) ?_
    · apply with43 hl
      clear hl vs
      intro v0 v1 v2 v3 v4 v5 v6 v7 v8 v9 v10 v11 v12 v13 v14 v15 v16 v17 v18 v19 v20 v21 v22 v23 v24 v25 v26 v27 v28 v29 v30 v31 v32 v33 v34 v35 v36 v37 v38 v39 v40 v41 v42 hg hnew hd K hK
      have d2 : v2 = Value.bool true := hd 2 v2 (by kernel_rfl) rfl
      subst d2
      clear hd
      clear hnew
      rw [if_pos (by kernel_rfl)]
      simp only [puts, Act.put, List.setIfInBounds_toArray, List.set_cons_zero, List.set_cons_succ] at hK ⊢
      go_simp
      exact hK _ _ (Below.refl _ _) rfl hg
    refine Each.cons (fun vs W hl => ?_) ?_
    · apply with43 hl
      clear hl vs
      intro v0 v1 v2 v3 v4 v5 v6 v7 v8 v9 v10 v11 v12 v13 v14 v15 v16 v17 v18 v19 v20 v21 v22 v23 v24 v25 v26 v27 v28 v29 v30 v31 v32 v33 v34 v35 v36 v37 v38 v39 v40 v41 v42 hg hnew hd K hK
      have d3 : v3 = Value.bool true := hd 3 v3 (by kernel_rfl) rfl
      subst d3
      clear hd
      clear hnew
      rw [if_pos (by kernel_rfl)]
      simp only [puts, Act.put, List.setIfInBounds_toArray, List.set_cons_zero, List.set_cons_succ] at hK ⊢
      go_simp
      exact hK _ _ (Below.refl _ _) rfl hg
    refine Each.cons (fun vs W hl => ?_) ?_
    · apply with43 hl
      clear hl vs
      intro v0 v1 v2 v3 v4 v5 v6 v7 v8 v9 v10 v11 v12 v13 v14 v15 v16 v17 v18 v19 v20 v21 v22 v23 v24 v25 v26 v27 v28 v29 v30 v31 v32 v33 v34 v35 v36 v37 v38 v39 v40 v41 v42 hg hnew hd K hK
      have d3 : v3 = Value.bool true := hd 3 v3 (by kernel_rfl) rfl
      subst d3
      have d4 : v4 = Value.pointer (some ⟨r1, 0, none⟩) := hd 4 v4 (by kernel_rfl) rfl
      subst d4
      clear hd
      clear hnew
      rw [if_pos (by kernel_rfl)]
      simp only [puts, Act.put, List.setIfInBounds_toArray, List.set_cons_zero, List.set_cons_succ] at hK ⊢
      go_simp
      refine (Err_v (R10.out.keep hg)).mono ?_
      rintro e w' ⟨rfl, hk⟩
      exact hK _ _ hk rfl (below_below hg hk)
    refine Each.cons (fun vs W hl => ?_) ?_
    · apply with43 hl
      clear hl vs
      intro v0 v1 v2 v3 v4 v5 v6 v7 v8 v9 v10 v11 v12 v13 v14 v15 v16 v17 v18 v19 v20 v21 v22 v23 v24 v25 v26 v27 v28 v29 v30 v31 v32 v33 v34 v35 v36 v37 v38 v39 v40 v41 v42 hg hnew hd K hK
      have d3 : v3 = Value.bool true := hd 3 v3 (by kernel_rfl) rfl
      subst d3
      clear hd
      clear hnew
      rw [if_pos (by kernel_rfl)]
      simp only [puts, Act.put, List.setIfInBounds_toArray, List.set_cons_zero, List.set_cons_succ] at hK ⊢
      go_simp
      exact hK _ _ (Below.refl _ _) rfl hg
    refine Each.cons (fun vs W hl => ?_) ?_
    · apply with43 hl
      clear hl vs
      intro v0 v1 v2 v3 v4 v5 v6 v7 v8 v9 v10 v11 v12 v13 v14 v15 v16 v17 v18 v19 v20 v21 v22 v23 v24 v25 v26 v27 v28 v29 v30 v31 v32 v33 v34 v35 v36 v37 v38 v39 v40 v41 v42 hg hnew hd K hK
      have d3 : v3 = Value.bool true := hd 3 v3 (by kernel_rfl) rfl
      subst d3
      have d6 : v6 = Value.pointer (some ⟨q1, 0, none⟩) := hd 6 v6 (by kernel_rfl) rfl
      subst d6
      clear hd
      clear hnew
      rw [if_pos (by kernel_rfl)]
      simp only [puts, Act.put, List.setIfInBounds_toArray, List.set_cons_zero, List.set_cons_succ] at hK ⊢
      go_simp
      exact hK _ _ (Below.refl _ _) rfl hg
    refine Each.cons (fun vs W hl => ?_) ?_
    · apply with43 hl
      clear hl vs
      intro v0 v1 v2 v3 v4 v5 v6 v7 v8 v9 v10 v11 v12 v13 v14 v15 v16 v17 v18 v19 v20 v21 v22 v23 v24 v25 v26 v27 v28 v29 v30 v31 v32 v33 v34 v35 v36 v37 v38 v39 v40 v41 v42 hg hnew hd K hK
      have d3 : v3 = Value.bool true := hd 3 v3 (by kernel_rfl) rfl
      subst d3
      have d7 : v7 = Value.pointer (some ⟨q1, 0, none⟩) := hd 7 v7 (by kernel_rfl) rfl
      subst d7
      clear hd
      clear hnew
      rw [if_pos (by kernel_rfl)]
      simp only [puts, Act.put, List.setIfInBounds_toArray, List.set_cons_zero, List.set_cons_succ] at hK ⊢
      go_simp
      exact hK _ _ (Below.refl _ _) rfl hg
    refine Each.cons (fun vs W hl => ?_) ?_
    · apply with43 hl
      clear hl vs
      intro v0 v1 v2 v3 v4 v5 v6 v7 v8 v9 v10 v11 v12 v13 v14 v15 v16 v17 v18 v19 v20 v21 v22 v23 v24 v25 v26 v27 v28 v29 v30 v31 v32 v33 v34 v35 v36 v37 v38 v39 v40 v41 v42 hg hnew hd K hK
      have d3 : v3 = Value.bool true := hd 3 v3 (by kernel_rfl) rfl
      subst d3
      have d8 : v8 = Value.pointer (some ⟨q1, 1, none⟩) := hd 8 v8 (by kernel_rfl) rfl
      subst d8
      clear hd
      clear hnew
      rw [if_pos (by kernel_rfl)]
      simp only [puts, Act.put, List.setIfInBounds_toArray, List.set_cons_zero, List.set_cons_succ] at hK ⊢
      have c := (Q10.out.keepB hg).err
      go_simp
      exact hK _ _ (Below.refl _ _) rfl hg
    refine Each.cons (fun vs W hl => ?_) ?_
    · apply with43 hl
      clear hl vs
      intro v0 v1 v2 v3 v4 v5 v6 v7 v8 v9 v10 v11 v12 v13 v14 v15 v16 v17 v18 v19 v20 v21 v22 v23 v24 v25 v26 v27 v28 v29 v30 v31 v32 v33 v34 v35 v36 v37 v38 v39 v40 v41 v42 hg hnew hd K hK
      have d3 : v3 = Value.bool true := hd 3 v3 (by kernel_rfl) rfl
      subst d3
      have d5 : v5 = Value.int IntKind.i64 e1 := hd 5 v5 (by kernel_rfl) rfl
      subst d5
      have d9 : v9 = Value.int IntKind.i64 e1 := hd 9 v9 (by kernel_rfl) rfl
      subst d9
      clear hd
      clear hnew
      rw [if_pos (by kernel_rfl)]
      simp only [puts, Act.put, List.setIfInBounds_toArray, List.set_cons_zero, List.set_cons_succ] at hK ⊢
      go_simp
      exact hK _ _ (Below.refl _ _) (by first | rfl | simp) hg
    refine Each.cons (fun vs W hl => ?_) ?_
    · apply with43 hl
      clear hl vs
      intro v0 v1 v2 v3 v4 v5 v6 v7 v8 v9 v10 v11 v12 v13 v14 v15 v16 v17 v18 v19 v20 v21 v22 v23 v24 v25 v26 v27 v28 v29 v30 v31 v32 v33 v34 v35 v36 v37 v38 v39 v40 v41 v42 hg hnew hd K hK
      have d3 : v3 = Value.bool true := hd 3 v3 (by kernel_rfl) rfl
      subst d3
      have d10 : v10 = Value.bool true := hd 10 v10 (by kernel_rfl) rfl
      subst d10
      clear hd
      clear hnew
      rw [if_pos (by kernel_rfl)]
      simp only [puts, Act.put, List.setIfInBounds_toArray, List.set_cons_zero, List.set_cons_succ] at hK ⊢
      go_simp
      exact hK _ _ (Below.refl _ _) rfl hg
    refine Each.cons (fun vs W hl => ?_) ?_
    · apply with43 hl
      clear hl vs
      intro v0 v1 v2 v3 v4 v5 v6 v7 v8 v9 v10 v11 v12 v13 v14 v15 v16 v17 v18 v19 v20 v21 v22 v23 v24 v25 v26 v27 v28 v29 v30 v31 v32 v33 v34 v35 v36 v37 v38 v39 v40 v41 v42 hg hnew hd K hK
      have d11 : v11 = Value.bool true := hd 11 v11 (by kernel_rfl) rfl
      subst d11
      clear hd
      clear hnew
      rw [if_pos (by kernel_rfl)]
      simp only [puts, Act.put, List.setIfInBounds_toArray, List.set_cons_zero, List.set_cons_succ] at hK ⊢
      go_simp
      exact hK _ _ (Below.refl _ _) rfl hg
    refine Each.cons (fun vs W hl => ?_) ?_
    · apply with43 hl
      clear hl vs
      intro v0 v1 v2 v3 v4 v5 v6 v7 v8 v9 v10 v11 v12 v13 v14 v15 v16 v17 v18 v19 v20 v21 v22 v23 v24 v25 v26 v27 v28 v29 v30 v31 v32 v33 v34 v35 v36 v37 v38 v39 v40 v41 v42 hg hnew hd K hK
      have d12 : v12 = Value.bool true := hd 12 v12 (by kernel_rfl) rfl
      subst d12
      clear hd
      clear hnew
      rw [if_pos (by kernel_rfl)]
      simp only [puts, Act.put, List.setIfInBounds_toArray, List.set_cons_zero, List.set_cons_succ] at hK ⊢
      go_simp
      exact hK _ _ (Below.refl _ _) rfl hg
    refine Each.cons (fun vs W hl => ?_) ?_
    · apply with43 hl
      clear hl vs
      intro v0 v1 v2 v3 v4 v5 v6 v7 v8 v9 v10 v11 v12 v13 v14 v15 v16 v17 v18 v19 v20 v21 v22 v23 v24 v25 v26 v27 v28 v29 v30 v31 v32 v33 v34 v35 v36 v37 v38 v39 v40 v41 v42 hg hnew hd K hK
      have d12 : v12 = Value.bool true := hd 12 v12 (by kernel_rfl) rfl
      subst d12
      have d13 : v13 = Value.pointer (some ⟨r1, 0, none⟩) := hd 13 v13 (by kernel_rfl) rfl
      subst d13
      clear hd
      clear hnew
      rw [if_pos (by kernel_rfl)]
      simp only [puts, Act.put, List.setIfInBounds_toArray, List.set_cons_zero, List.set_cons_succ] at hK ⊢
      go_simp
      refine (Left_any (R10.out.keep hg)).mono ?_
      rw [A1.out]
      rintro e w' ⟨rfl, hk⟩
      exact hK _ _ hk rfl (below_below hg hk)
    refine Each.cons (fun vs W hl => ?_) ?_
    · apply with43 hl
      clear hl vs
      intro v0 v1 v2 v3 v4 v5 v6 v7 v8 v9 v10 v11 v12 v13 v14 v15 v16 v17 v18 v19 v20 v21 v22 v23 v24 v25 v26 v27 v28 v29 v30 v31 v32 v33 v34 v35 v36 v37 v38 v39 v40 v41 v42 hg hnew hd K hK
      have d12 : v12 = Value.bool true := hd 12 v12 (by kernel_rfl) rfl
      subst d12
      clear hd
      clear hnew
      rw [if_pos (by kernel_rfl)]
      simp only [puts, Act.put, List.setIfInBounds_toArray, List.set_cons_zero, List.set_cons_succ] at hK ⊢
      go_simp
      exact hK _ _ (Below.refl _ _) rfl hg
    refine Each.cons (fun vs W hl => ?_) ?_
    · apply with43 hl
      clear hl vs
      intro v0 v1 v2 v3 v4 v5 v6 v7 v8 v9 v10 v11 v12 v13 v14 v15 v16 v17 v18 v19 v20 v21 v22 v23 v24 v25 v26 v27 v28 v29 v30 v31 v32 v33 v34 v35 v36 v37 v38 v39 v40 v41 v42 hg hnew hd K hK
      have d12 : v12 = Value.bool true := hd 12 v12 (by kernel_rfl) rfl
      subst d12
      have d15 : v15 = Value.pointer (some ⟨q1, 0, none⟩) := hd 15 v15 (by kernel_rfl) rfl
      subst d15
      clear hd
      clear hnew
      rw [if_pos (by kernel_rfl)]
      simp only [puts, Act.put, List.setIfInBounds_toArray, List.set_cons_zero, List.set_cons_succ] at hK ⊢
      go_simp
      refine (LeftX_any (Q10.out.keepB hg)).mono ?_
      rw [Y1.out]
      rintro e w' ⟨rfl, hk⟩
      exact hK _ _ hk rfl (below_below hg hk)
    refine Each.cons (fun vs W hl => ?_) ?_
    · apply with43 hl
      clear hl vs
      intro v0 v1 v2 v3 v4 v5 v6 v7 v8 v9 v10 v11 v12 v13 v14 v15 v16 v17 v18 v19 v20 v21 v22 v23 v24 v25 v26 v27 v28 v29 v30 v31 v32 v33 v34 v35 v36 v37 v38 v39 v40 v41 v42 hg hnew hd K hK
      have d12 : v12 = Value.bool true := hd 12 v12 (by kernel_rfl) rfl
      subst d12
      have d14 : v14 = Value.int IntKind.i64 a1 := hd 14 v14 (by kernel_rfl) rfl
      subst d14
      have d16 : v16 = Value.int IntKind.i64 a1 := hd 16 v16 (by kernel_rfl) rfl
      subst d16
      clear hd
      clear hnew
      rw [if_pos (by kernel_rfl)]
      simp only [puts, Act.put, List.setIfInBounds_toArray, List.set_cons_zero, List.set_cons_succ] at hK ⊢
      go_simp
      exact hK _ _ (Below.refl _ _) (by first | rfl | simp) hg
    refine Each.cons (fun vs W hl => ?_) ?_
    · apply with43 hl
      clear hl vs
      intro v0 v1 v2 v3 v4 v5 v6 v7 v8 v9 v10 v11 v12 v13 v14 v15 v16 v17 v18 v19 v20 v21 v22 v23 v24 v25 v26 v27 v28 v29 v30 v31 v32 v33 v34 v35 v36 v37 v38 v39 v40 v41 v42 hg hnew hd K hK
      have d12 : v12 = Value.bool true := hd 12 v12 (by kernel_rfl) rfl
      subst d12
      have d17 : v17 = Value.bool true := hd 17 v17 (by kernel_rfl) rfl
      subst d17
      clear hd
      clear hnew
      rw [if_pos (by kernel_rfl)]
      simp only [puts, Act.put, List.setIfInBounds_toArray, List.set_cons_zero, List.set_cons_succ] at hK ⊢
      go_simp
      exact hK _ _ (Below.refl _ _) rfl hg
    refine Each.cons (fun vs W hl => ?_) ?_
    · apply with43 hl
      clear hl vs
      intro v0 v1 v2 v3 v4 v5 v6 v7 v8 v9 v10 v11 v12 v13 v14 v15 v16 v17 v18 v19 v20 v21 v22 v23 v24 v25 v26 v27 v28 v29 v30 v31 v32 v33 v34 v35 v36 v37 v38 v39 v40 v41 v42 hg hnew hd K hK
      have d18 : v18 = Value.bool true := hd 18 v18 (by kernel_rfl) rfl
      subst d18
      clear hd
      clear hnew
      rw [if_pos (by kernel_rfl)]
      simp only [puts, Act.put, List.setIfInBounds_toArray, List.set_cons_zero, List.set_cons_succ] at hK ⊢
      go_simp
      exact hK _ _ (Below.refl _ _) rfl hg
    refine Each.cons (fun vs W hl => ?_) ?_
    · apply with43 hl
      clear hl vs
      intro v0 v1 v2 v3 v4 v5 v6 v7 v8 v9 v10 v11 v12 v13 v14 v15 v16 v17 v18 v19 v20 v21 v22 v23 v24 v25 v26 v27 v28 v29 v30 v31 v32 v33 v34 v35 v36 v37 v38 v39 v40 v41 v42 hg hnew hd K hK
      have d19 : v19 = Value.bool true := hd 19 v19 (by kernel_rfl) rfl
      subst d19
      clear hd
      clear hnew
      rw [if_pos (by kernel_rfl)]
      simp only [puts, Act.put, List.setIfInBounds_toArray, List.set_cons_zero, List.set_cons_succ] at hK ⊢
      go_simp
      exact hK _ _ (Below.refl _ _) rfl hg
    refine Each.cons (fun vs W hl => ?_) ?_
    · apply with43 hl
      clear hl vs
      intro v0 v1 v2 v3 v4 v5 v6 v7 v8 v9 v10 v11 v12 v13 v14 v15 v16 v17 v18 v19 v20 v21 v22 v23 v24 v25 v26 v27 v28 v29 v30 v31 v32 v33 v34 v35 v36 v37 v38 v39 v40 v41 v42 hg hnew hd K hK
      have d19 : v19 = Value.bool true := hd 19 v19 (by kernel_rfl) rfl
      subst d19
      clear hd
      clear hnew
      rw [if_pos (by kernel_rfl)]
      simp only [puts, Act.put, List.setIfInBounds_toArray, List.set_cons_zero, List.set_cons_succ] at hK ⊢
      go_simp
      exact hK _ _ (Below.refl _ _) rfl hg
    refine Each.cons (fun vs W hl => ?_) ?_
    · apply with43 hl
      clear hl vs
      intro v0 v1 v2 v3 v4 v5 v6 v7 v8 v9 v10 v11 v12 v13 v14 v15 v16 v17 v18 v19 v20 v21 v22 v23 v24 v25 v26 v27 v28 v29 v30 v31 v32 v33 v34 v35 v36 v37 v38 v39 v40 v41 v42 hg hnew hd K hK
      have d19 : v19 = Value.bool true := hd 19 v19 (by kernel_rfl) rfl
      subst d19
      have d20 : v20 = Value.slice x9 z c9 := hd 20 v20 (by kernel_rfl) rfl
      subst d20
      have d21 : v21 = Value.slice x10 z c10 := hd 21 v21 (by kernel_rfl) rfl
      subst d21
      clear hd
      clear hnew
      rw [if_pos (by kernel_rfl)]
      simp only [puts, Act.put, List.setIfInBounds_toArray, List.set_cons_zero, List.set_cons_succ] at hK ⊢
      go_simp
      have hsm := same_any (M10.out.keep hg) (O10.out.keep hg)
      rw [sameAs_self] at hsm
      refine hsm.mono ?_
      clear hsm
      rintro e w' ⟨rfl, hk⟩
      exact hK _ _ hk rfl (below_below hg hk)
    refine Each.cons (fun vs W hl => ?_) ?_
    · apply with43 hl
      clear hl vs
      intro v0 v1 v2 v3 v4 v5 v6 v7 v8 v9 v10 v11 v12 v13 v14 v15 v16 v17 v18 v19 v20 v21 v22 v23 v24 v25 v26 v27 v28 v29 v30 v31 v32 v33 v34 v35 v36 v37 v38 v39 v40 v41 v42 hg hnew hd K hK
      have d19 : v19 = Value.bool true := hd 19 v19 (by kernel_rfl) rfl
      subst d19
      have d22 : v22 = Value.bool true := hd 22 v22 (by kernel_rfl) rfl
      subst d22
      clear hd
      clear hnew
      rw [if_pos (by kernel_rfl)]
      simp only [puts, Act.put, List.setIfInBounds_toArray, List.set_cons_zero, List.set_cons_succ] at hK ⊢
      go_simp
      exact hK _ _ (Below.refl _ _) rfl hg
    refine Each.cons (fun vs W hl => ?_) ?_
    · apply with43 hl
      clear hl vs
      intro v0 v1 v2 v3 v4 v5 v6 v7 v8 v9 v10 v11 v12 v13 v14 v15 v16 v17 v18 v19 v20 v21 v22 v23 v24 v25 v26 v27 v28 v29 v30 v31 v32 v33 v34 v35 v36 v37 v38 v39 v40 v41 v42 hg hnew hd K hK
      have d23 : v23 = Value.bool true := hd 23 v23 (by kernel_rfl) rfl
      subst d23
      clear hd
      clear hnew
      rw [if_pos (by kernel_rfl)]
      simp only [puts, Act.put, List.setIfInBounds_toArray, List.set_cons_zero, List.set_cons_succ] at hK ⊢
      go_simp
      exact hK _ _ (Below.refl _ _) rfl hg
    refine Each.cons (fun vs W hl => ?_) ?_
    · apply with43 hl
      clear hl vs
      intro v0 v1 v2 v3 v4 v5 v6 v7 v8 v9 v10 v11 v12 v13 v14 v15 v16 v17 v18 v19 v20 v21 v22 v23 v24 v25 v26 v27 v28 v29 v30 v31 v32 v33 v34 v35 v36 v37 v38 v39 v40 v41 v42 hg hnew hd K hK
      have d24 : v24 = Value.bool true := hd 24 v24 (by kernel_rfl) rfl
      subst d24
      clear hd
      clear hnew
      rw [if_pos (by kernel_rfl)]
      simp only [puts, Act.put, List.setIfInBounds_toArray, List.set_cons_zero, List.set_cons_succ] at hK ⊢
      go_simp
      exact hK _ _ (Below.refl _ _) rfl hg
    refine Each.cons (fun vs W hl => ?_) ?_
    · apply with43 hl
      clear hl vs
      intro v0 v1 v2 v3 v4 v5 v6 v7 v8 v9 v10 v11 v12 v13 v14 v15 v16 v17 v18 v19 v20 v21 v22 v23 v24 v25 v26 v27 v28 v29 v30 v31 v32 v33 v34 v35 v36 v37 v38 v39 v40 v41 v42 hg hnew hd K hK
      have d24 : v24 = Value.bool true := hd 24 v24 (by kernel_rfl) rfl
      subst d24
      have d25 : v25 = Value.pointer (some ⟨r2, 0, none⟩) := hd 25 v25 (by kernel_rfl) rfl
      subst d25
      clear hd
      clear hnew
      rw [if_pos (by kernel_rfl)]
      simp only [puts, Act.put, List.setIfInBounds_toArray, List.set_cons_zero, List.set_cons_succ] at hK ⊢
      go_simp
      refine (Err_v (S10.out.keep hg)).mono ?_
      rintro e w' ⟨rfl, hk⟩
      exact hK _ _ hk rfl (below_below hg hk)
    refine Each.cons (fun vs W hl => ?_) ?_
    · apply with43 hl
      clear hl vs
      intro v0 v1 v2 v3 v4 v5 v6 v7 v8 v9 v10 v11 v12 v13 v14 v15 v16 v17 v18 v19 v20 v21 v22 v23 v24 v25 v26 v27 v28 v29 v30 v31 v32 v33 v34 v35 v36 v37 v38 v39 v40 v41 v42 hg hnew hd K hK
      have d24 : v24 = Value.bool true := hd 24 v24 (by kernel_rfl) rfl
      subst d24
      clear hd
      clear hnew
      rw [if_pos (by kernel_rfl)]
      simp only [puts, Act.put, List.setIfInBounds_toArray, List.set_cons_zero, List.set_cons_succ] at hK ⊢
      go_simp
      exact hK _ _ (Below.refl _ _) rfl hg
    refine Each.cons (fun vs W hl => ?_) ?_
    · apply with43 hl
      clear hl vs
      intro v0 v1 v2 v3 v4 v5 v6 v7 v8 v9 v10 v11 v12 v13 v14 v15 v16 v17 v18 v19 v20 v21 v22 v23 v24 v25 v26 v27 v28 v29 v30 v31 v32 v33 v34 v35 v36 v37 v38 v39 v40 v41 v42 hg hnew hd K hK
      have d24 : v24 = Value.bool true := hd 24 v24 (by kernel_rfl) rfl
      subst d24
      have d27 : v27 = Value.pointer (some ⟨q2, 0, none⟩) := hd 27 v27 (by kernel_rfl) rfl
      subst d27
      clear hd
      clear hnew
      rw [if_pos (by kernel_rfl)]
      simp only [puts, Act.put, List.setIfInBounds_toArray, List.set_cons_zero, List.set_cons_succ] at hK ⊢
      go_simp
      exact hK _ _ (Below.refl _ _) rfl hg
    refine Each.cons (fun vs W hl => ?_) ?_
    · apply with43 hl
      clear hl vs
      intro v0 v1 v2 v3 v4 v5 v6 v7 v8 v9 v10 v11 v12 v13 v14 v15 v16 v17 v18 v19 v20 v21 v22 v23 v24 v25 v26 v27 v28 v29 v30 v31 v32 v33 v34 v35 v36 v37 v38 v39 v40 v41 v42 hg hnew hd K hK
      have d24 : v24 = Value.bool true := hd 24 v24 (by kernel_rfl) rfl
      subst d24
      have d28 : v28 = Value.pointer (some ⟨q2, 0, none⟩) := hd 28 v28 (by kernel_rfl) rfl
      subst d28
      clear hd
      clear hnew
      rw [if_pos (by kernel_rfl)]
      simp only [puts, Act.put, List.setIfInBounds_toArray, List.set_cons_zero, List.set_cons_succ] at hK ⊢
      go_simp
      exact hK _ _ (Below.refl _ _) rfl hg
    refine Each.cons (fun vs W hl => ?_) ?_
    · apply with43 hl
      clear hl vs
      intro v0 v1 v2 v3 v4 v5 v6 v7 v8 v9 v10 v11 v12 v13 v14 v15 v16 v17 v18 v19 v20 v21 v22 v23 v24 v25 v26 v27 v28 v29 v30 v31 v32 v33 v34 v35 v36 v37 v38 v39 v40 v41 v42 hg hnew hd K hK
      have d24 : v24 = Value.bool true := hd 24 v24 (by kernel_rfl) rfl
      subst d24
      have d29 : v29 = Value.pointer (some ⟨q2, 1, none⟩) := hd 29 v29 (by kernel_rfl) rfl
      subst d29
      clear hd
      clear hnew
      rw [if_pos (by kernel_rfl)]
      simp only [puts, Act.put, List.setIfInBounds_toArray, List.set_cons_zero, List.set_cons_succ] at hK ⊢
      have c := (T10.out.keepB hg).err
      go_simp
      exact hK _ _ (Below.refl _ _) rfl hg
    refine Each.cons (fun vs W hl => ?_) ?_
    · apply with43 hl
      clear hl vs
      intro v0 v1 v2 v3 v4 v5 v6 v7 v8 v9 v10 v11 v12 v13 v14 v15 v16 v17 v18 v19 v20 v21 v22 v23 v24 v25 v26 v27 v28 v29 v30 v31 v32 v33 v34 v35 v36 v37 v38 v39 v40 v41 v42 hg hnew hd K hK
      have d24 : v24 = Value.bool true := hd 24 v24 (by kernel_rfl) rfl
      subst d24
      have d26 : v26 = Value.int IntKind.i64 e2 := hd 26 v26 (by kernel_rfl) rfl
      subst d26
      have d30 : v30 = Value.int IntKind.i64 e2 := hd 30 v30 (by kernel_rfl) rfl
      subst d30
      clear hd
      clear hnew
      rw [if_pos (by kernel_rfl)]
      simp only [puts, Act.put, List.setIfInBounds_toArray, List.set_cons_zero, List.set_cons_succ] at hK ⊢
      go_simp
      exact hK _ _ (Below.refl _ _) (by first | rfl | simp) hg
    refine Each.cons (fun vs W hl => ?_) ?_
    · apply with43 hl
      clear hl vs
      intro v0 v1 v2 v3 v4 v5 v6 v7 v8 v9 v10 v11 v12 v13 v14 v15 v16 v17 v18 v19 v20 v21 v22 v23 v24 v25 v26 v27 v28 v29 v30 v31 v32 v33 v34 v35 v36 v37 v38 v39 v40 v41 v42 hg hnew hd K hK
      have d24 : v24 = Value.bool true := hd 24 v24 (by kernel_rfl) rfl
      subst d24
      have d31 : v31 = Value.bool true := hd 31 v31 (by kernel_rfl) rfl
      subst d31
      clear hd
      clear hnew
      rw [if_pos (by kernel_rfl)]
      simp only [puts, Act.put, List.setIfInBounds_toArray, List.set_cons_zero, List.set_cons_succ] at hK ⊢
      go_simp
      exact hK _ _ (Below.refl _ _) rfl hg
    refine Each.cons (fun vs W hl => ?_) ?_
    · apply with43 hl
      clear hl vs
      intro v0 v1 v2 v3 v4 v5 v6 v7 v8 v9 v10 v11 v12 v13 v14 v15 v16 v17 v18 v19 v20 v21 v22 v23 v24 v25 v26 v27 v28 v29 v30 v31 v32 v33 v34 v35 v36 v37 v38 v39 v40 v41 v42 hg hnew hd K hK
      have d32 : v32 = Value.bool true := hd 32 v32 (by kernel_rfl) rfl
      subst d32
      clear hd
      clear hnew
      rw [if_pos (by kernel_rfl)]
      simp only [puts, Act.put, List.setIfInBounds_toArray, List.set_cons_zero, List.set_cons_succ] at hK ⊢
      go_simp
      exact hK _ _ (Below.refl _ _) rfl hg
    refine Each.cons (fun vs W hl => ?_) ?_
    · apply with43 hl
      clear hl vs
      intro v0 v1 v2 v3 v4 v5 v6 v7 v8 v9 v10 v11 v12 v13 v14 v15 v16 v17 v18 v19 v20 v21 v22 v23 v24 v25 v26 v27 v28 v29 v30 v31 v32 v33 v34 v35 v36 v37 v38 v39 v40 v41 v42 hg hnew hd K hK
      have d33 : v33 = Value.bool true := hd 33 v33 (by kernel_rfl) rfl
      subst d33
      clear hd
      clear hnew
      rw [if_pos (by kernel_rfl)]
      simp only [puts, Act.put, List.setIfInBounds_toArray, List.set_cons_zero, List.set_cons_succ] at hK ⊢
      go_simp
      exact hK _ _ (Below.refl _ _) rfl hg
    refine Each.cons (fun vs W hl => ?_) ?_
    · apply with43 hl
      clear hl vs
      intro v0 v1 v2 v3 v4 v5 v6 v7 v8 v9 v10 v11 v12 v13 v14 v15 v16 v17 v18 v19 v20 v21 v22 v23 v24 v25 v26 v27 v28 v29 v30 v31 v32 v33 v34 v35 v36 v37 v38 v39 v40 v41 v42 hg hnew hd K hK
      have d33 : v33 = Value.bool true := hd 33 v33 (by kernel_rfl) rfl
      subst d33
      have d34 : v34 = Value.pointer (some ⟨r2, 0, none⟩) := hd 34 v34 (by kernel_rfl) rfl
      subst d34
      clear hd
      clear hnew
      rw [if_pos (by kernel_rfl)]
      simp only [puts, Act.put, List.setIfInBounds_toArray, List.set_cons_zero, List.set_cons_succ] at hK ⊢
      go_simp
      refine (Left_any (S10.out.keep hg)).mono ?_
      rw [A2.out]
      rintro e w' ⟨rfl, hk⟩
      exact hK _ _ hk rfl (below_below hg hk)
    refine Each.cons (fun vs W hl => ?_) ?_
    · apply with43 hl
      clear hl vs
      intro v0 v1 v2 v3 v4 v5 v6 v7 v8 v9 v10 v11 v12 v13 v14 v15 v16 v17 v18 v19 v20 v21 v22 v23 v24 v25 v26 v27 v28 v29 v30 v31 v32 v33 v34 v35 v36 v37 v38 v39 v40 v41 v42 hg hnew hd K hK
      have d33 : v33 = Value.bool true := hd 33 v33 (by kernel_rfl) rfl
      subst d33
      clear hd
      clear hnew
      rw [if_pos (by kernel_rfl)]
      simp only [puts, Act.put, List.setIfInBounds_toArray, List.set_cons_zero, List.set_cons_succ] at hK ⊢
      go_simp
      exact hK _ _ (Below.refl _ _) rfl hg
    refine Each.cons (fun vs W hl => ?_) ?_
    · apply with43 hl
      clear hl vs
      intro v0 v1 v2 v3 v4 v5 v6 v7 v8 v9 v10 v11 v12 v13 v14 v15 v16 v17 v18 v19 v20 v21 v22 v23 v24 v25 v26 v27 v28 v29 v30 v31 v32 v33 v34 v35 v36 v37 v38 v39 v40 v41 v42 hg hnew hd K hK
      have d33 : v33 = Value.bool true := hd 33 v33 (by kernel_rfl) rfl
      subst d33
      have d36 : v36 = Value.pointer (some ⟨q2, 0, none⟩) := hd 36 v36 (by kernel_rfl) rfl
      subst d36
      clear hd
      clear hnew
      rw [if_pos (by kernel_rfl)]
      simp only [puts, Act.put, List.setIfInBounds_toArray, List.set_cons_zero, List.set_cons_succ] at hK ⊢
      go_simp
      refine (LeftX_any (T10.out.keepB hg)).mono ?_
      rw [Y2.out]
      rintro e w' ⟨rfl, hk⟩
      exact hK _ _ hk rfl (below_below hg hk)
    refine Each.cons (fun vs W hl => ?_) ?_
    · apply with43 hl
      clear hl vs
      intro v0 v1 v2 v3 v4 v5 v6 v7 v8 v9 v10 v11 v12 v13 v14 v15 v16 v17 v18 v19 v20 v21 v22 v23 v24 v25 v26 v27 v28 v29 v30 v31 v32 v33 v34 v35 v36 v37 v38 v39 v40 v41 v42 hg hnew hd K hK
      have d33 : v33 = Value.bool true := hd 33 v33 (by kernel_rfl) rfl
      subst d33
      have d35 : v35 = Value.int IntKind.i64 a2 := hd 35 v35 (by kernel_rfl) rfl
      subst d35
      have d37 : v37 = Value.int IntKind.i64 a2 := hd 37 v37 (by kernel_rfl) rfl
      subst d37
      clear hd
      clear hnew
      rw [if_pos (by kernel_rfl)]
      simp only [puts, Act.put, List.setIfInBounds_toArray, List.set_cons_zero, List.set_cons_succ] at hK ⊢
      go_simp
      exact hK _ _ (Below.refl _ _) (by first | rfl | simp) hg
    refine Each.cons (fun vs W hl => ?_) ?_
    · apply with43 hl
      clear hl vs
      intro v0 v1 v2 v3 v4 v5 v6 v7 v8 v9 v10 v11 v12 v13 v14 v15 v16 v17 v18 v19 v20 v21 v22 v23 v24 v25 v26 v27 v28 v29 v30 v31 v32 v33 v34 v35 v36 v37 v38 v39 v40 v41 v42 hg hnew hd K hK
      have d33 : v33 = Value.bool true := hd 33 v33 (by kernel_rfl) rfl
      subst d33
      have d38 : v38 = Value.bool true := hd 38 v38 (by kernel_rfl) rfl
      subst d38
      clear hd
      clear hnew
      rw [if_pos (by kernel_rfl)]
      simp only [puts, Act.put, List.setIfInBounds_toArray, List.set_cons_zero, List.set_cons_succ] at hK ⊢
      go_simp
      exact hK _ _ (Below.refl _ _) rfl hg
    refine Each.cons (fun vs W hl => ?_) ?_
    · apply with43 hl
      clear hl vs
      intro v0 v1 v2 v3 v4 v5 v6 v7 v8 v9 v10 v11 v12 v13 v14 v15 v16 v17 v18 v19 v20 v21 v22 v23 v24 v25 v26 v27 v28 v29 v30 v31 v32 v33 v34 v35 v36 v37 v38 v39 v40 v41 v42 hg hnew hd K hK
      have d39 : v39 = Value.bool true := hd 39 v39 (by kernel_rfl) rfl
      subst d39
      clear hd
      clear hnew
      rw [if_pos (by kernel_rfl)]
      simp only [puts, Act.put, List.setIfInBounds_toArray, List.set_cons_zero, List.set_cons_succ] at hK ⊢
      go_simp
      exact hK _ _ (Below.refl _ _) rfl hg
    refine Each.cons (fun vs W hl => ?_) ?_
    · apply with43 hl
      clear hl vs
      intro v0 v1 v2 v3 v4 v5 v6 v7 v8 v9 v10 v11 v12 v13 v14 v15 v16 v17 v18 v19 v20 v21 v22 v23 v24 v25 v26 v27 v28 v29 v30 v31 v32 v33 v34 v35 v36 v37 v38 v39 v40 v41 v42 hg hnew hd K hK
      have d40 : v40 = Value.bool true := hd 40 v40 (by kernel_rfl) rfl
      subst d40
      clear hd
      clear hnew
      rw [if_pos (by kernel_rfl)]
      simp only [puts, Act.put, List.setIfInBounds_toArray, List.set_cons_zero, List.set_cons_succ] at hK ⊢
      go_simp
      refine (works_true W).mono ?_
      rintro e w' ⟨rfl, hk⟩
      exact hK _ _ hk rfl (below_below hg hk)
    refine Each.cons (fun vs W hl => ?_) ?_
    · apply with43 hl
      clear hl vs
      intro v0 v1 v2 v3 v4 v5 v6 v7 v8 v9 v10 v11 v12 v13 v14 v15 v16 v17 v18 v19 v20 v21 v22 v23 v24 v25 v26 v27 v28 v29 v30 v31 v32 v33 v34 v35 v36 v37 v38 v39 v40 v41 v42 hg hnew hd K hK
      have d40 : v40 = Value.bool true := hd 40 v40 (by kernel_rfl) rfl
      subst d40
      have d41 : v41 = Value.bool true := hd 41 v41 (by kernel_rfl) rfl
      subst d41
      clear hd
      clear hnew
      rw [if_pos (by kernel_rfl)]
      simp only [puts, Act.put, List.setIfInBounds_toArray, List.set_cons_zero, List.set_cons_succ] at hK ⊢
      go_simp
      exact hK _ _ (Below.refl _ _) rfl hg
    exact Each.nil
  · intro vs W hl
    apply with43 hl
    clear hl vs
    intro v0 v1 v2 v3 v4 v5 v6 v7 v8 v9 v10 v11 v12 v13 v14 v15 v16 v17 v18 v19 v20 v21 v22 v23 v24 v25 v26 v27 v28 v29 v30 v31 v32 v33 v34 v35 v36 v37 v38 v39 v40 v41 v42 hg hall
    have d0 : v0 = Value.agg #[Value.int IntKind.i64 k, Value.int IntKind.i64 m, Value.string s] := hall 0 v0 rfl
    subst d0
    have d1 : v1 = Value.agg #[Value.int IntKind.i64 k, Value.int IntKind.i64 m, Value.string s] := hall 1 v1 rfl
    subst d1
    have d2 : v2 = Value.bool true := hall 2 v2 rfl
    subst d2
    have d3 : v3 = Value.bool true := hall 3 v3 rfl
    subst d3
    have d4 : v4 = Value.pointer (some ⟨r1, 0, none⟩) := hall 4 v4 rfl
    subst d4
    have d5 : v5 = Value.int IntKind.i64 e1 := hall 5 v5 rfl
    subst d5
    have d6 : v6 = Value.pointer (some ⟨q1, 0, none⟩) := hall 6 v6 rfl
    subst d6
    have d7 : v7 = Value.pointer (some ⟨q1, 0, none⟩) := hall 7 v7 rfl
    subst d7
    have d8 : v8 = Value.pointer (some ⟨q1, 1, none⟩) := hall 8 v8 rfl
    subst d8
    have d9 : v9 = Value.int IntKind.i64 e1 := hall 9 v9 rfl
    subst d9
    have d10 : v10 = Value.bool true := hall 10 v10 rfl
    subst d10
    have d11 : v11 = Value.bool true := hall 11 v11 rfl
    subst d11
    have d12 : v12 = Value.bool true := hall 12 v12 rfl
    subst d12
    have d13 : v13 = Value.pointer (some ⟨r1, 0, none⟩) := hall 13 v13 rfl
    subst d13
    have d14 : v14 = Value.int IntKind.i64 a1 := hall 14 v14 rfl
    subst d14
    have d15 : v15 = Value.pointer (some ⟨q1, 0, none⟩) := hall 15 v15 rfl
    subst d15
    have d16 : v16 = Value.int IntKind.i64 a1 := hall 16 v16 rfl
    subst d16
    have d17 : v17 = Value.bool true := hall 17 v17 rfl
    subst d17
    have d18 : v18 = Value.bool true := hall 18 v18 rfl
    subst d18
    have d19 : v19 = Value.bool true := hall 19 v19 rfl
    subst d19
    have d20 : v20 = Value.slice x9 z c9 := hall 20 v20 rfl
    subst d20
    have d21 : v21 = Value.slice x10 z c10 := hall 21 v21 rfl
    subst d21
    have d22 : v22 = Value.bool true := hall 22 v22 rfl
    subst d22
    have d23 : v23 = Value.bool true := hall 23 v23 rfl
    subst d23
    have d24 : v24 = Value.bool true := hall 24 v24 rfl
    subst d24
    have d25 : v25 = Value.pointer (some ⟨r2, 0, none⟩) := hall 25 v25 rfl
    subst d25
    have d26 : v26 = Value.int IntKind.i64 e2 := hall 26 v26 rfl
    subst d26
    have d27 : v27 = Value.pointer (some ⟨q2, 0, none⟩) := hall 27 v27 rfl
    subst d27
    have d28 : v28 = Value.pointer (some ⟨q2, 0, none⟩) := hall 28 v28 rfl
    subst d28
    have d29 : v29 = Value.pointer (some ⟨q2, 1, none⟩) := hall 29 v29 rfl
    subst d29
    have d30 : v30 = Value.int IntKind.i64 e2 := hall 30 v30 rfl
    subst d30
    have d31 : v31 = Value.bool true := hall 31 v31 rfl
    subst d31
    have d32 : v32 = Value.bool true := hall 32 v32 rfl
    subst d32
    have d33 : v33 = Value.bool true := hall 33 v33 rfl
    subst d33
    have d34 : v34 = Value.pointer (some ⟨r2, 0, none⟩) := hall 34 v34 rfl
    subst d34
    have d35 : v35 = Value.int IntKind.i64 a2 := hall 35 v35 rfl
    subst d35
    have d36 : v36 = Value.pointer (some ⟨q2, 0, none⟩) := hall 36 v36 rfl
    subst d36
    have d37 : v37 = Value.int IntKind.i64 a2 := hall 37 v37 rfl
    subst d37
    have d38 : v38 = Value.bool true := hall 38 v38 rfl
    subst d38
    have d39 : v39 = Value.bool true := hall 39 v39 rfl
    subst d39
    have d40 : v40 = Value.bool true := hall 40 v40 rfl
    subst d40
    have d41 : v41 = Value.bool true := hall 41 v41 rfl
    subst d41
    have d42 : v42 = Value.bool true := hall 42 v42 rfl
    subst d42
    clear hall
    simp only [puts, Act.put, List.setIfInBounds_toArray, List.set_cons_zero, List.set_cons_succ, List.take_succ_cons, List.take_zero, List.drop_succ_cons, List.drop_zero]
    have BE := hd (below_below B10.out hg)
    clear hg
    go_wp2_with fail
    go_ret
    exact VEnd.mk BE.out

end Go.Proofs.Ytibnjhnecfcimaa
