/- VeilKnown: the law's walk. -/
import Derived.Test.YtcgimbomandjfabNn
import Derived.Test.YtcgimbomandjfabVo
namespace Go.Proofs.Ytcgimbomandjfab
open Go.RowKit
set_option linter.unusedVariables false

/-- Two labels that may not be. -/
structure KS (w : World) (g : Nat) (W : World) : Prop where
  bel : Below w.heap.size w W
  low : Lb W g (-1) 1
  high : Lb W (g + 1) 8 1
theorem KS.call {w W W' : World} {g : Nat} (h : KS w g W) (k : Below W.heap.size W W') : KS w g W' := ⟨below_below h.bel k, h.low.keep k, h.high.keep k⟩
theorem KS.drew {w W : World} {g : Nat} (h : KS w g W) : KS w g W.drew := h.call (Below.refl _ _).drew
theorem KS.alloc {w W : World} {g : Nat} (h : KS w g W) (o : Obj) : KS w g (W.alloc o) := h.call (below1 W o)
theorem KS.first {w w2 : World} (h : Below w.heap.size w w2) : KS w w2.heap.size ((w2.alloc (.cells #[.int .i64 (-1), .int .u32 1] 24)).alloc (.cells #[.int .i64 8, .int .u32 1] 24)) := by
  have b2 := Lb.new (w2.alloc (.cells #[.int .i64 (-1), .int .u32 1] 24)) 8 1
  simp only [World.size_alloc] at b2
  exact ⟨below_below h (below2 _ _ _), (Lb.new w2 (-1) 1).alloc _, b2⟩

theorem check_bad (x p : Int) (w : World) (h : okL x = false) : Calls Try.prog 6 #[.agg #[.int .i64 x, .int .u32 p]] w fun e w' => VEnd w (.int .i64 9) e w' := by
  have c := check_any x p w
  rw [h] at c
  exact c
theorem Err_v {RB : Nat} {w : World} {rb : Nat} {l : List Int} {e0 : Int} (h : Rd RB w rb l e0) : Calls Try.prog 15 #[.pointer (some ⟨rb, 0, none⟩)] w fun e w' => VEnd w (.int .i64 e0) e w' := by
  refine (Err_any h).mono ?_
  rintro e w' ⟨rfl, rfl⟩
  exact VEnd.mk (Below.refl _ _)

/-- The six bytes of the greatest label. -/
def Six (w : World) (e : Ending) (w' : World) : Prop :=
  ∃ g o c, e = .returned (.tuple #[.slice (some ⟨g, o, none⟩) 6 c, .int .i64 0]) ∧ 6 ≤ c ∧ Ow w.heap.size w' (.slice (some ⟨g, o, none⟩) 6 c) [7, 240, 255, 255, 255, 255] ∧ Bs (fun b => w.heap.size ≤ b) w' (.slice (some ⟨g, o + 1, none⟩) 5 (c - 1)) [240, 255, 255, 255, 255] ∧ Below w.heap.size w w'
theorem bytes6 (w : World) : Calls Try.prog 5 #[.agg #[.int .i64 7, .int .u32 4294967295]] w fun e w' => Six w e w' := by
  have h := bytes_ok 7 4294967295 w (by decide) (by omega)
  rw [enc6] at h
  refine h.mono ?_
  rintro e w' ⟨a, c, rfl, ho, hk⟩
  obtain ⟨g, o, rfl, _, hc, hr⟩ := Bs.rest1 ho.bs
  exact ⟨g, o, c, rfl, hc, ho, hr, hk⟩
/-- The byte 8 and what stands behind the first byte. -/
theorem top6 {A : Nat → Prop} {w : World} {g o c : Nat} (h : Bs A w (.slice (some ⟨g, o, none⟩) 5 c) [240, 255, 255, 255, 255]) :
    ∃ v w', (Builtin.append_ #[26, 26] 26 #[.slice (some ⟨w.heap.size, 0, none⟩) 1 1, .slice (some ⟨g, o, none⟩) 5 c]).run Try.prog (w.alloc (Obj.cells #[Value.int IntKind.u8 8] 5)) = .ok v w' ∧ Ow w.heap.size w' v [8, 240, 255, 255, 255, 255] ∧ Below w.heap.size w w' := by
  have h0 := Ow.new w [8] (byt_dec _ rfl) (by decide)
  have hb : Bx (w.alloc (Obj.cells #[Value.int IntKind.u8 8] 5)).heap.size (w.alloc (Obj.cells #[Value.int IntKind.u8 8] 5)) (.slice (some ⟨g, o, none⟩) 5 c) [240, 255, 255, 255, 255] := by
    have h1 := h.keepB (below1 w (Obj.cells #[Value.int IntKind.u8 8] 5))
    obtain ⟨a, b, d⟩ := h1
    refine Or.inl ⟨a, b, ?_⟩
    rcases d with ⟨d, _⟩ | ⟨g', o', c', d, e, _, f, i⟩
    · cases d
    · exact Or.inr ⟨g', o', c', d, e, f, f, i⟩
  obtain ⟨v, w', hr, ho, hk⟩ := append_ow (ty := 26) h0 hb (byt_dec _ rfl) (by simp) (by decide)
  exact ⟨v, w', hr, ho, (below1 _ _).trans hk⟩

/-- Three readers behind Take, and a label. -/
structure KA (w : World) (n1 r1 n2 r2 n3 r3 gw : Nat) (W : World) : Prop where
  bel : Below w.heap.size w W
  q1 : Rd n1 W r1 [] 4
  q2 : Rd n2 W r2 [] 4
  q3 : Rd n3 W r3 [] 0
  wide : Lb W gw 1 2147483648
theorem KA.call {w W W' : World} {n1 r1 n2 r2 n3 r3 gw : Nat} (h : KA w n1 r1 n2 r2 n3 r3 gw W) (k : Below W.heap.size W W') : KA w n1 r1 n2 r2 n3 r3 gw W' := ⟨below_below h.bel k, h.q1.keep k, h.q2.keep k, h.q3.keep k, h.wide.keep k⟩
/-- And three labels more. -/
structure KB (w : World) (n1 r1 n2 r2 n3 r3 gw gf gn gz : Nat) (W : World) : Prop where
  a : KA w n1 r1 n2 r2 n3 r3 gw W
  full : Lb W gf 7 4294967295
  none : Lb W gn 0 0
  zero : Lb W gz 0 0
theorem KB.call {w W W' : World} {n1 r1 n2 r2 n3 r3 gw gf gn gz : Nat} (h : KB w n1 r1 n2 r2 n3 r3 gw gf gn gz W) (k : Below W.heap.size W W') : KB w n1 r1 n2 r2 n3 r3 gw gf gn gz W' := ⟨h.a.call k, h.full.keep k, h.none.keep k, h.zero.keep k⟩
theorem KB.drew {w W : World} {n1 r1 n2 r2 n3 r3 gw gf gn gz : Nat} (h : KB w n1 r1 n2 r2 n3 r3 gw gf gn gz W) : KB w n1 r1 n2 r2 n3 r3 gw gf gn gz W.drew := h.call (Below.refl _ _).drew

/-- A row of the texts that are none. -/
def Ss (g : Nat) (W : World) : Prop := g < W.heap.size ∧ ∀ k, k < 10 → W.cell? ⟨g, k, none⟩ = some (.string (bads.getD k ⟨#[]⟩))
theorem Ss.keep {g : Nat} {W W' : World} (h : Ss g W) (k : Below W.heap.size W W') : Ss g W' := ⟨Nat.lt_of_lt_of_le h.1 k.size, fun i hi => (k.cell (p := ⟨g, i, none⟩) h.1).trans (h.2 i hi)⟩
theorem readff (w : World) : Calls Try.prog 13 #[.string ⟨#[55, 58, 102, 102, 102, 102, 102, 102, 102, 102]⟩] w fun e w' => VEnd w (le 7 4294967295 0) e w' := by
  have h := vread_ok 7 4294967295 w (by omega) (by omega)
  rw [show textOf 7 4294967295 = ⟨#[55, 58, 102, 102, 102, 102, 102, 102, 102, 102]⟩ from by decide +kernel] at h
  exact h
theorem nr_new (w : World) : NR (some ⟨w.heap.size + 1, 0, none⟩) ((w.alloc (Obj.cells #[Value.int IntKind.i64 0, Value.int IntKind.u32 0] 24)).alloc (Obj.cells #[Value.bool false, Value.slice none 0 0, Value.int IntKind.i64 0] 42)) := by
  refine Or.inr ⟨_, rfl, by simp, ?_⟩
  have h : ((w.alloc (Obj.cells #[Value.int IntKind.i64 0, Value.int IntKind.u32 0] 24)).alloc (Obj.cells #[Value.bool false, Value.slice none 0 0, Value.int IntKind.i64 0] 42)).cell? ⟨(w.alloc (Obj.cells #[Value.int IntKind.i64 0, Value.int IntKind.u32 0] 24)).heap.size, 0, none⟩ = some (.bool false) := World.cell?_alloc_at (w := w.alloc (Obj.cells #[Value.int IntKind.i64 0, Value.int IntKind.u32 0] 24)) _ _ _ _ rfl
  rw [World.size_alloc] at h
  exact h
theorem ss_new (wd : World) : Ss wd.heap.size (wd.alloc (Obj.cells #[Value.string ⟨#[]⟩, Value.string ⟨#[48, 48]⟩, Value.string ⟨#[51, 58]⟩, Value.string ⟨#[51, 58, 49]⟩, Value.string ⟨#[51, 58, 48, 48, 48, 48, 48, 48, 49]⟩, Value.string ⟨#[51, 58, 48, 48, 48, 48, 48, 48, 48, 49, 49]⟩, Value.string ⟨#[51, 59, 48, 48, 48, 48, 48, 48, 48, 49]⟩, Value.string ⟨#[97]⟩, Value.string ⟨#[51, 58, 48, 48, 48, 48, 48, 48, 48, 65]⟩, Value.string ⟨#[32, 51]⟩] 9)) := by
  refine ⟨by simp, fun k hk => ?_⟩
  match k, hk with
  | 0, _ => exact World.cell?_alloc_at (w := wd) _ _ _ _ rfl
  | 1, _ => exact World.cell?_alloc_at (w := wd) _ _ _ _ rfl
  | 2, _ => exact World.cell?_alloc_at (w := wd) _ _ _ _ rfl
  | 3, _ => exact World.cell?_alloc_at (w := wd) _ _ _ _ rfl
  | 4, _ => exact World.cell?_alloc_at (w := wd) _ _ _ _ rfl
  | 5, _ => exact World.cell?_alloc_at (w := wd) _ _ _ _ rfl
  | 6, _ => exact World.cell?_alloc_at (w := wd) _ _ _ _ rfl
  | 7, _ => exact World.cell?_alloc_at (w := wd) _ _ _ _ rfl
  | 8, _ => exact World.cell?_alloc_at (w := wd) _ _ _ _ rfl
  | 9, _ => exact World.cell?_alloc_at (w := wd) _ _ _ _ rfl

set_option maxRecDepth 100000 in
set_option maxHeartbeats 8000000 in
theorem known_walk (w : World) : Calls Try.prog 3 #[] w fun e w' => VEnd w (.bool true) e w' := by
  have WK : Hid (∀ w, Calls Try.prog 14 #[] w fun e w' => VEnd w (.bool true) e w') := hd works_true
  have FL : Hid (∀ w, Calls Try.prog 7 #[.agg #[.int .i64 (-1), .int .u32 1], .agg #[.int .i64 7, .int .u32 1]] w fun e w' => VEnd w (.bool false) e w') := hd fun w => flows_is _ _ _ _ w false (by decide)
  have FH : Hid (∀ w, Calls Try.prog 7 #[.agg #[.int .i64 0, .int .u32 0], .agg #[.int .i64 8, .int .u32 1]] w fun e w' => VEnd w (.bool false) e w') := hd fun w => flows_is _ _ _ _ w false (by decide)
  have ME : Hid (∀ w, Calls Try.prog 9 #[.agg #[.int .i64 (-1), .int .u32 1], .agg #[.int .i64 1, .int .u32 1]] w fun e w' => VEnd w (.agg #[.int .i64 0, .int .u32 0]) e w') := hd fun w => meet_is _ _ _ _ w 0 0 (by decide) (by decide)
  go_enter Try.func3, Try.ntmps3
  go_wp2_with fail
  refine (at_any (-1) 1 _).mono ?_
  rintro e w1 ⟨rfl, hk⟩
  have B1 := hd hk
  clear hk
  go_wp2_with fail
  refine (at_any 8 1 _).mono ?_
  rintro e w2 ⟨rfl, hk⟩
  have B2 := hd (below_below B1.out hk)
  clear hk B1
  go_wp2_with fail
  have A3 := KS.first B2.out
  clear B2
  generalize w2.heap.size = g at *
  generalize (w2.alloc (Obj.cells #[Value.int IntKind.i64 (-1), Value.int IntKind.u32 1] 24)).alloc (Obj.cells #[Value.int IntKind.i64 8, Value.int IntKind.u32 1] 24) = w3 at *
  refine (bytes_bad (-1) 1 w3 rfl).mono ?_
  rintro e w4 ⟨rfl, hk⟩
  have A4 := A3.call hk
  clear hk A3
  have c0 := A4.high.c0
  have c1 := A4.high.c1
  go_wp2_with fail
  refine (bytes_bad 8 1 w4 rfl).mono ?_
  rintro e w5 ⟨rfl, hk⟩
  have A5 := A4.call hk
  clear hk A4 c0 c1
  go_wp2_with fail
  refine wp_region_each 54 (fun W W' => Below W.heap.size W W') (fun i v W => match i with | 0 => v = Value.int IntKind.i64 9 | 1 => v = Value.bool true | 2 => v = Value.bool true | 3 => v = Value.int IntKind.i64 9 | 4 => v = Value.bool true | 5 => v = Value.bool true | 6 => v = Value.bool true | 7 => v = Value.agg #[Value.int IntKind.i64 (-1), Value.int IntKind.u32 1] | 8 => v = Value.int IntKind.i64 9 | 9 => v = Value.bool true | 10 => v = Value.bool true | 11 => v = Value.bool true | 12 => v = Value.agg #[Value.int IntKind.i64 8, Value.int IntKind.u32 1] | 13 => v = Value.int IntKind.i64 9 | 14 => v = Value.bool true | 15 => v = Value.bool true | 16 => v = Value.bool true | 17 => v = Value.agg #[Value.int IntKind.i64 (-1), Value.int IntKind.u32 1] | 18 => v = Value.agg #[Value.int IntKind.i64 7, Value.int IntKind.u32 1] | 19 => v = Value.bool false | 20 => v = Value.bool true | 21 => v = Value.bool true | 22 => v = Value.bool true | 23 => v = Value.agg #[Value.int IntKind.i64 0, Value.int IntKind.u32 0] | 24 => v = Value.agg #[Value.int IntKind.i64 8, Value.int IntKind.u32 1] | 25 => v = Value.bool false | 26 => v = Value.bool true | 27 => v = Value.bool true | 28 => v = Value.bool true | 29 => v = Value.agg #[Value.int IntKind.i64 1, Value.int IntKind.u32 1] | 30 => v = Value.agg #[Value.int IntKind.i64 8, Value.int IntKind.u32 1] | 31 => Ls W v [(1, 1), (8, 1)] | 32 => v = Value.agg #[Value.int IntKind.i64 0, Value.int IntKind.u32 0] | 33 => v = Value.agg #[Value.int IntKind.i64 0, Value.int IntKind.u32 0] | 34 => v = Value.bool true | 35 => v = Value.bool true | 36 => v = Value.bool true | 37 => v = Value.agg #[Value.int IntKind.i64 (-1), Value.int IntKind.u32 1] | 38 => v = Value.agg #[Value.int IntKind.i64 1, Value.int IntKind.u32 1] | 39 => v = Value.agg #[Value.int IntKind.i64 0, Value.int IntKind.u32 0] | 40 => v = Value.agg #[Value.int IntKind.i64 0, Value.int IntKind.u32 0] | 41 => v = Value.bool true | 42 => v = Value.bool true | 43 => v = Value.bool true | 44 => v = Value.agg #[Value.int IntKind.i64 8, Value.int IntKind.u32 1] | 45 => v = Value.string ⟨#[]⟩ | 46 => v = Value.bool true | 47 => v = Value.bool true | 48 => v = Value.bool true | 49 => v = Value.agg #[Value.int IntKind.i64 (-1), Value.int IntKind.u32 1] | 50 => v = Value.string ⟨#[]⟩ | 51 => v = Value.bool true | 52 => v = Value.bool true | 53 => v = Value.bool true | _ => True) (fun _ W => KS w g W) (by kernel_rfl) (by kernel_rfl) (fun j v W W' hE h => by
      match j with
      | 0 => exact h
      | 1 => exact h
      | 2 => exact h
      | 3 => exact h
      | 4 => exact h
      | 5 => exact h
      | 6 => exact h
      | 7 => exact h
      | 8 => exact h
      | 9 => exact h
      | 10 => exact h
      | 11 => exact h
      | 12 => exact h
      | 13 => exact h
      | 14 => exact h
      | 15 => exact h
      | 16 => exact h
      | 17 => exact h
      | 18 => exact h
      | 19 => exact h
      | 20 => exact h
      | 21 => exact h
      | 22 => exact h
      | 23 => exact h
      | 24 => exact h
      | 25 => exact h
      | 26 => exact h
      | 27 => exact h
      | 28 => exact h
      | 29 => exact h
      | 30 => exact h
      | 31 => exact Ls.keep h hE
      | 32 => exact h
      | 33 => exact h
      | 34 => exact h
      | 35 => exact h
      | 36 => exact h
      | 37 => exact h
      | 38 => exact h
      | 39 => exact h
      | 40 => exact h
      | 41 => exact h
      | 42 => exact h
      | 43 => exact h
      | 44 => exact h
      | 45 => exact h
      | 46 => exact h
      | 47 => exact h
      | 48 => exact h
      | 49 => exact h
      | 50 => exact h
      | 51 => exact h
      | 52 => exact h
      | 53 => exact h
      | _ + 54 => trivial) (A5.drew) ?_ ?_
  · simp only [List.take_succ_cons, List.take_zero]
    refine Each.start (fun A hA => ?_)
    have PUTS : ∀ v0 v1 v2 v3 v4 v5 v6 v7 v8 v9 v10 v11 v12 v13 v14 v15 v16 v17 v18 v19 v20 v21 v22 v23 v24 v25 v26 v27 v28 v29 v30 v31 v32 v33 v34 v35 v36 v37 v38 v39 v40 v41 v42 v43 v44 v45 v46 v47 v48 v49 v50 v51 v52 v53 : Value, A [v0, v1, v2, v3, v4, v5, v6, v7, v8, v9, v10, v11, v12, v13, v14, v15, v16, v17, v18, v19, v20, v21, v22, v23, v24, v25, v26, v27, v28, v29, v30, v31, v32, v33, v34, v35, v36, v37, v38, v39, v40, v41, v42, v43, v44, v45, v46, v47, v48, v49, v50, v51, v52, v53] = A [v0, v1, v2, v3, v4, v5, v6, v7, v8, v9, v10, v11, v12, v13, v14, v15, v16, v17, v18, v19, v20, v21, v22, v23, v24, v25, v26, v27, v28, v29, v30, v31, v32, v33, v34, v35, v36, v37, v38, v39, v40, v41, v42, v43, v44, v45, v46, v47, v48, v49, v50, v51, v52, v53] := fun v0 v1 v2 v3 v4 v5 v6 v7 v8 v9 v10 v11 v12 v13 v14 v15 v16 v17 v18 v19 v20 v21 v22 v23 v24 v25 v26 v27 v28 v29 v30 v31 v32 v33 v34 v35 v36 v37 v38 v39 v40 v41 v42 v43 v44 v45 v46 v47 v48 v49 v50 v51 v52 v53 => rfl
    conv at PUTS => intro v0 v1 v2 v3 v4 v5 v6 v7 v8 v9 v10 v11 v12 v13 v14 v15 v16 v17 v18 v19 v20 v21 v22 v23 v24 v25 v26 v27 v28 v29 v30 v31 v32 v33 v34 v35 v36 v37 v38 v39 v40 v41 v42 v43 v44 v45 v46 v47 v48 v49 v50 v51 v52 v53; rhs; rw [hA]; simp only [puts, Act.put, List.setIfInBounds_toArray, List.set_cons_zero, List.set_cons_succ]
    refine Each.consA A hA (fun vs W hl => ?_) ?_
    · apply with54 hl
      clear hl vs
      intro v0 v1 v2 v3 v4 v5 v6 v7 v8 v9 v10 v11 v12 v13 v14 v15 v16 v17 v18 v19 v20 v21 v22 v23 v24 v25 v26 v27 v28 v29 v30 v31 v32 v33 v34 v35 v36 v37 v38 v39 v40 v41 v42 v43 v44 v45 v46 v47 v48 v49 v50 v51 v52 v53 hg hd K hK
      clear hd
      rw [if_pos (by rw [PUTS]; kernel_rfl)]
      simp only [PUTS, Act.put, List.setIfInBounds_toArray, List.set_cons_zero, List.set_cons_succ] at hK ⊢
      go_simp
      exact hK _ _ (Below.refl _ _) rfl hg
    refine Each.consA A hA (fun vs W hl => ?_) ?_
    · apply with54 hl
      clear hl vs
      intro v0 v1 v2 v3 v4 v5 v6 v7 v8 v9 v10 v11 v12 v13 v14 v15 v16 v17 v18 v19 v20 v21 v22 v23 v24 v25 v26 v27 v28 v29 v30 v31 v32 v33 v34 v35 v36 v37 v38 v39 v40 v41 v42 v43 v44 v45 v46 v47 v48 v49 v50 v51 v52 v53 hg hd K hK
      have d0 : v0 = Value.int IntKind.i64 9 := hd 0 v0 (by kernel_rfl) rfl
      subst d0
      clear hd
      rw [if_pos (by rw [PUTS]; kernel_rfl)]
      simp only [PUTS, Act.put, List.setIfInBounds_toArray, List.set_cons_zero, List.set_cons_succ] at hK ⊢
      go_simp
      exact hK _ _ (Below.refl _ _) (by first | rfl | simp) hg
    refine Each.consA A hA (fun vs W hl => ?_) ?_
    · apply with54 hl
      clear hl vs
      intro v0 v1 v2 v3 v4 v5 v6 v7 v8 v9 v10 v11 v12 v13 v14 v15 v16 v17 v18 v19 v20 v21 v22 v23 v24 v25 v26 v27 v28 v29 v30 v31 v32 v33 v34 v35 v36 v37 v38 v39 v40 v41 v42 v43 v44 v45 v46 v47 v48 v49 v50 v51 v52 v53 hg hd K hK
      have d1 : v1 = Value.bool true := hd 1 v1 (by kernel_rfl) rfl
      subst d1
      clear hd
      rw [if_pos (by rw [PUTS]; kernel_rfl)]
      simp only [PUTS, Act.put, List.setIfInBounds_toArray, List.set_cons_zero, List.set_cons_succ] at hK ⊢
      go_simp
      exact hK _ _ (Below.refl _ _) rfl hg
    refine Each.consA A hA (fun vs W hl => ?_) ?_
    · apply with54 hl
      clear hl vs
      intro v0 v1 v2 v3 v4 v5 v6 v7 v8 v9 v10 v11 v12 v13 v14 v15 v16 v17 v18 v19 v20 v21 v22 v23 v24 v25 v26 v27 v28 v29 v30 v31 v32 v33 v34 v35 v36 v37 v38 v39 v40 v41 v42 v43 v44 v45 v46 v47 v48 v49 v50 v51 v52 v53 hg hd K hK
      have d2 : v2 = Value.bool true := hd 2 v2 (by kernel_rfl) rfl
      subst d2
      clear hd
      rw [if_pos (by rw [PUTS]; kernel_rfl)]
      simp only [PUTS, Act.put, List.setIfInBounds_toArray, List.set_cons_zero, List.set_cons_succ] at hK ⊢
      go_simp
      exact hK _ _ (Below.refl _ _) rfl hg
    refine Each.consA A hA (fun vs W hl => ?_) ?_
    · apply with54 hl
      clear hl vs
      intro v0 v1 v2 v3 v4 v5 v6 v7 v8 v9 v10 v11 v12 v13 v14 v15 v16 v17 v18 v19 v20 v21 v22 v23 v24 v25 v26 v27 v28 v29 v30 v31 v32 v33 v34 v35 v36 v37 v38 v39 v40 v41 v42 v43 v44 v45 v46 v47 v48 v49 v50 v51 v52 v53 hg hd K hK
      have d2 : v2 = Value.bool true := hd 2 v2 (by kernel_rfl) rfl
      subst d2
      have d3 : v3 = Value.int IntKind.i64 9 := hd 3 v3 (by kernel_rfl) rfl
      subst d3
      clear hd
      rw [if_pos (by rw [PUTS]; kernel_rfl)]
      simp only [PUTS, Act.put, List.setIfInBounds_toArray, List.set_cons_zero, List.set_cons_succ] at hK ⊢
      go_simp
      exact hK _ _ (Below.refl _ _) (by first | rfl | simp) hg
    refine Each.consA A hA (fun vs W hl => ?_) ?_
    · apply with54 hl
      clear hl vs
      intro v0 v1 v2 v3 v4 v5 v6 v7 v8 v9 v10 v11 v12 v13 v14 v15 v16 v17 v18 v19 v20 v21 v22 v23 v24 v25 v26 v27 v28 v29 v30 v31 v32 v33 v34 v35 v36 v37 v38 v39 v40 v41 v42 v43 v44 v45 v46 v47 v48 v49 v50 v51 v52 v53 hg hd K hK
      have d2 : v2 = Value.bool true := hd 2 v2 (by kernel_rfl) rfl
      subst d2
      have d4 : v4 = Value.bool true := hd 4 v4 (by kernel_rfl) rfl
      subst d4
      clear hd
      rw [if_pos (by rw [PUTS]; kernel_rfl)]
      simp only [PUTS, Act.put, List.setIfInBounds_toArray, List.set_cons_zero, List.set_cons_succ] at hK ⊢
      go_simp
      exact hK _ _ (Below.refl _ _) rfl hg
    refine Each.consA A hA (fun vs W hl => ?_) ?_
    · apply with54 hl
      clear hl vs
      intro v0 v1 v2 v3 v4 v5 v6 v7 v8 v9 v10 v11 v12 v13 v14 v15 v16 v17 v18 v19 v20 v21 v22 v23 v24 v25 v26 v27 v28 v29 v30 v31 v32 v33 v34 v35 v36 v37 v38 v39 v40 v41 v42 v43 v44 v45 v46 v47 v48 v49 v50 v51 v52 v53 hg hd K hK
      have d5 : v5 = Value.bool true := hd 5 v5 (by kernel_rfl) rfl
      subst d5
      clear hd
      rw [if_pos (by rw [PUTS]; kernel_rfl)]
      simp only [PUTS, Act.put, List.setIfInBounds_toArray, List.set_cons_zero, List.set_cons_succ] at hK ⊢
      go_simp
      exact hK _ _ (Below.refl _ _) rfl hg
    refine Each.consA A hA (fun vs W hl => ?_) ?_
    · apply with54 hl
      clear hl vs
      intro v0 v1 v2 v3 v4 v5 v6 v7 v8 v9 v10 v11 v12 v13 v14 v15 v16 v17 v18 v19 v20 v21 v22 v23 v24 v25 v26 v27 v28 v29 v30 v31 v32 v33 v34 v35 v36 v37 v38 v39 v40 v41 v42 v43 v44 v45 v46 v47 v48 v49 v50 v51 v52 v53 hg hd K hK
      have d6 : v6 = Value.bool true := hd 6 v6 (by kernel_rfl) rfl
      subst d6
      clear hd
      rw [if_pos (by rw [PUTS]; kernel_rfl)]
      simp only [PUTS, Act.put, List.setIfInBounds_toArray, List.set_cons_zero, List.set_cons_succ] at hK ⊢
      have c0 := hg.low.c0
      have c1 := hg.low.c1
      go_simp
      exact hK _ _ (Below.refl _ _) rfl hg
    refine Each.consA A hA (fun vs W hl => ?_) ?_
    · apply with54 hl
      clear hl vs
      intro v0 v1 v2 v3 v4 v5 v6 v7 v8 v9 v10 v11 v12 v13 v14 v15 v16 v17 v18 v19 v20 v21 v22 v23 v24 v25 v26 v27 v28 v29 v30 v31 v32 v33 v34 v35 v36 v37 v38 v39 v40 v41 v42 v43 v44 v45 v46 v47 v48 v49 v50 v51 v52 v53 hg hd K hK
      have d6 : v6 = Value.bool true := hd 6 v6 (by kernel_rfl) rfl
      subst d6
      have d7 : v7 = Value.agg #[Value.int IntKind.i64 (-1), Value.int IntKind.u32 1] := hd 7 v7 (by kernel_rfl) rfl
      subst d7
      clear hd
      rw [if_pos (by rw [PUTS]; kernel_rfl)]
      simp only [PUTS, Act.put, List.setIfInBounds_toArray, List.set_cons_zero, List.set_cons_succ] at hK ⊢
      go_simp
      refine (check_bad _ _ _ rfl).mono ?_
      rintro e w' ⟨rfl, hk⟩
      exact hK _ _ hk rfl (hg.call hk)
    refine Each.consA A hA (fun vs W hl => ?_) ?_
    · apply with54 hl
      clear hl vs
      intro v0 v1 v2 v3 v4 v5 v6 v7 v8 v9 v10 v11 v12 v13 v14 v15 v16 v17 v18 v19 v20 v21 v22 v23 v24 v25 v26 v27 v28 v29 v30 v31 v32 v33 v34 v35 v36 v37 v38 v39 v40 v41 v42 v43 v44 v45 v46 v47 v48 v49 v50 v51 v52 v53 hg hd K hK
      have d6 : v6 = Value.bool true := hd 6 v6 (by kernel_rfl) rfl
      subst d6
      have d8 : v8 = Value.int IntKind.i64 9 := hd 8 v8 (by kernel_rfl) rfl
      subst d8
      clear hd
      rw [if_pos (by rw [PUTS]; kernel_rfl)]
      simp only [PUTS, Act.put, List.setIfInBounds_toArray, List.set_cons_zero, List.set_cons_succ] at hK ⊢
      go_simp
      exact hK _ _ (Below.refl _ _) (by first | rfl | simp) hg
    refine Each.consA A hA (fun vs W hl => ?_) ?_
    · apply with54 hl
      clear hl vs
      intro v0 v1 v2 v3 v4 v5 v6 v7 v8 v9 v10 v11 v12 v13 v14 v15 v16 v17 v18 v19 v20 v21 v22 v23 v24 v25 v26 v27 v28 v29 v30 v31 v32 v33 v34 v35 v36 v37 v38 v39 v40 v41 v42 v43 v44 v45 v46 v47 v48 v49 v50 v51 v52 v53 hg hd K hK
      have d6 : v6 = Value.bool true := hd 6 v6 (by kernel_rfl) rfl
      subst d6
      have d9 : v9 = Value.bool true := hd 9 v9 (by kernel_rfl) rfl
      subst d9
      clear hd
      rw [if_pos (by rw [PUTS]; kernel_rfl)]
      simp only [PUTS, Act.put, List.setIfInBounds_toArray, List.set_cons_zero, List.set_cons_succ] at hK ⊢
      go_simp
      exact hK _ _ (Below.refl _ _) rfl hg
    refine Each.consA A hA (fun vs W hl => ?_) ?_
    · apply with54 hl
      clear hl vs
      intro v0 v1 v2 v3 v4 v5 v6 v7 v8 v9 v10 v11 v12 v13 v14 v15 v16 v17 v18 v19 v20 v21 v22 v23 v24 v25 v26 v27 v28 v29 v30 v31 v32 v33 v34 v35 v36 v37 v38 v39 v40 v41 v42 v43 v44 v45 v46 v47 v48 v49 v50 v51 v52 v53 hg hd K hK
      have d10 : v10 = Value.bool true := hd 10 v10 (by kernel_rfl) rfl
      subst d10
      clear hd
      rw [if_pos (by rw [PUTS]; kernel_rfl)]
      simp only [PUTS, Act.put, List.setIfInBounds_toArray, List.set_cons_zero, List.set_cons_succ] at hK ⊢
      go_simp
      exact hK _ _ (Below.refl _ _) rfl hg
    refine Each.consA A hA (fun vs W hl => ?_) ?_
    · apply with54 hl
      clear hl vs
      intro v0 v1 v2 v3 v4 v5 v6 v7 v8 v9 v10 v11 v12 v13 v14 v15 v16 v17 v18 v19 v20 v21 v22 v23 v24 v25 v26 v27 v28 v29 v30 v31 v32 v33 v34 v35 v36 v37 v38 v39 v40 v41 v42 v43 v44 v45 v46 v47 v48 v49 v50 v51 v52 v53 hg hd K hK
      have d11 : v11 = Value.bool true := hd 11 v11 (by kernel_rfl) rfl
      subst d11
      clear hd
      rw [if_pos (by rw [PUTS]; kernel_rfl)]
      simp only [PUTS, Act.put, List.setIfInBounds_toArray, List.set_cons_zero, List.set_cons_succ] at hK ⊢
      have c0 := hg.high.c0
      have c1 := hg.high.c1
      go_simp
      exact hK _ _ (Below.refl _ _) rfl hg
    refine Each.consA A hA (fun vs W hl => ?_) ?_
    · apply with54 hl
      clear hl vs
      intro v0 v1 v2 v3 v4 v5 v6 v7 v8 v9 v10 v11 v12 v13 v14 v15 v16 v17 v18 v19 v20 v21 v22 v23 v24 v25 v26 v27 v28 v29 v30 v31 v32 v33 v34 v35 v36 v37 v38 v39 v40 v41 v42 v43 v44 v45 v46 v47 v48 v49 v50 v51 v52 v53 hg hd K hK
      have d11 : v11 = Value.bool true := hd 11 v11 (by kernel_rfl) rfl
      subst d11
      have d12 : v12 = Value.agg #[Value.int IntKind.i64 8, Value.int IntKind.u32 1] := hd 12 v12 (by kernel_rfl) rfl
      subst d12
      clear hd
      rw [if_pos (by rw [PUTS]; kernel_rfl)]
      simp only [PUTS, Act.put, List.setIfInBounds_toArray, List.set_cons_zero, List.set_cons_succ] at hK ⊢
      go_simp
      refine (check_bad _ _ _ rfl).mono ?_
      rintro e w' ⟨rfl, hk⟩
      exact hK _ _ hk rfl (hg.call hk)
    refine Each.consA A hA (fun vs W hl => ?_) ?_
    · apply with54 hl
      clear hl vs
      intro v0 v1 v2 v3 v4 v5 v6 v7 v8 v9 v10 v11 v12 v13 v14 v15 v16 v17 v18 v19 v20 v21 v22 v23 v24 v25 v26 v27 v28 v29 v30 v31 v32 v33 v34 v35 v36 v37 v38 v39 v40 v41 v42 v43 v44 v45 v46 v47 v48 v49 v50 v51 v52 v53 hg hd K hK
      have d11 : v11 = Value.bool true := hd 11 v11 (by kernel_rfl) rfl
      subst d11
      have d13 : v13 = Value.int IntKind.i64 9 := hd 13 v13 (by kernel_rfl) rfl
      subst d13
      clear hd
      rw [if_pos (by rw [PUTS]; kernel_rfl)]
      simp only [PUTS, Act.put, List.setIfInBounds_toArray, List.set_cons_zero, List.set_cons_succ] at hK ⊢
      go_simp
      exact hK _ _ (Below.refl _ _) (by first | rfl | simp) hg
    refine Each.consA A hA (fun vs W hl => ?_) ?_
    · apply with54 hl
      clear hl vs
      intro v0 v1 v2 v3 v4 v5 v6 v7 v8 v9 v10 v11 v12 v13 v14 v15 v16 v17 v18 v19 v20 v21 v22 v23 v24 v25 v26 v27 v28 v29 v30 v31 v32 v33 v34 v35 v36 v37 v38 v39 v40 v41 v42 v43 v44 v45 v46 v47 v48 v49 v50 v51 v52 v53 hg hd K hK
      have d11 : v11 = Value.bool true := hd 11 v11 (by kernel_rfl) rfl
      subst d11
      have d14 : v14 = Value.bool true := hd 14 v14 (by kernel_rfl) rfl
      subst d14
      clear hd
      rw [if_pos (by rw [PUTS]; kernel_rfl)]
      simp only [PUTS, Act.put, List.setIfInBounds_toArray, List.set_cons_zero, List.set_cons_succ] at hK ⊢
      go_simp
      exact hK _ _ (Below.refl _ _) rfl hg
    refine Each.consA A hA (fun vs W hl => ?_) ?_
    · apply with54 hl
      clear hl vs
      intro v0 v1 v2 v3 v4 v5 v6 v7 v8 v9 v10 v11 v12 v13 v14 v15 v16 v17 v18 v19 v20 v21 v22 v23 v24 v25 v26 v27 v28 v29 v30 v31 v32 v33 v34 v35 v36 v37 v38 v39 v40 v41 v42 v43 v44 v45 v46 v47 v48 v49 v50 v51 v52 v53 hg hd K hK
      have d15 : v15 = Value.bool true := hd 15 v15 (by kernel_rfl) rfl
      subst d15
      clear hd
      rw [if_pos (by rw [PUTS]; kernel_rfl)]
      simp only [PUTS, Act.put, List.setIfInBounds_toArray, List.set_cons_zero, List.set_cons_succ] at hK ⊢
      go_simp
      exact hK _ _ (Below.refl _ _) rfl hg
    refine Each.consA A hA (fun vs W hl => ?_) ?_
    · apply with54 hl
      clear hl vs
      intro v0 v1 v2 v3 v4 v5 v6 v7 v8 v9 v10 v11 v12 v13 v14 v15 v16 v17 v18 v19 v20 v21 v22 v23 v24 v25 v26 v27 v28 v29 v30 v31 v32 v33 v34 v35 v36 v37 v38 v39 v40 v41 v42 v43 v44 v45 v46 v47 v48 v49 v50 v51 v52 v53 hg hd K hK
      have d16 : v16 = Value.bool true := hd 16 v16 (by kernel_rfl) rfl
      subst d16
      clear hd
      rw [if_pos (by rw [PUTS]; kernel_rfl)]
      simp only [PUTS, Act.put, List.setIfInBounds_toArray, List.set_cons_zero, List.set_cons_succ] at hK ⊢
      have c0 := hg.low.c0
      have c1 := hg.low.c1
      go_simp
      exact hK _ _ (Below.refl _ _) rfl hg
    refine Each.consA A hA (fun vs W hl => ?_) ?_
    · apply with54 hl
      clear hl vs
      intro v0 v1 v2 v3 v4 v5 v6 v7 v8 v9 v10 v11 v12 v13 v14 v15 v16 v17 v18 v19 v20 v21 v22 v23 v24 v25 v26 v27 v28 v29 v30 v31 v32 v33 v34 v35 v36 v37 v38 v39 v40 v41 v42 v43 v44 v45 v46 v47 v48 v49 v50 v51 v52 v53 hg hd K hK
      have d16 : v16 = Value.bool true := hd 16 v16 (by kernel_rfl) rfl
      subst d16
      clear hd
      rw [if_pos (by rw [PUTS]; kernel_rfl)]
      simp only [PUTS, Act.put, List.setIfInBounds_toArray, List.set_cons_zero, List.set_cons_succ] at hK ⊢
      go_simp
      refine (at_any _ _ _).mono ?_
      rintro e w' ⟨rfl, hk⟩
      exact hK _ _ hk rfl (hg.call hk)
    refine Each.consA A hA (fun vs W hl => ?_) ?_
    · apply with54 hl
      clear hl vs
      intro v0 v1 v2 v3 v4 v5 v6 v7 v8 v9 v10 v11 v12 v13 v14 v15 v16 v17 v18 v19 v20 v21 v22 v23 v24 v25 v26 v27 v28 v29 v30 v31 v32 v33 v34 v35 v36 v37 v38 v39 v40 v41 v42 v43 v44 v45 v46 v47 v48 v49 v50 v51 v52 v53 hg hd K hK
      have d16 : v16 = Value.bool true := hd 16 v16 (by kernel_rfl) rfl
      subst d16
      have d17 : v17 = Value.agg #[Value.int IntKind.i64 (-1), Value.int IntKind.u32 1] := hd 17 v17 (by kernel_rfl) rfl
      subst d17
      have d18 : v18 = Value.agg #[Value.int IntKind.i64 7, Value.int IntKind.u32 1] := hd 18 v18 (by kernel_rfl) rfl
      subst d18
      clear hd
      rw [if_pos (by rw [PUTS]; kernel_rfl)]
      simp only [PUTS, Act.put, List.setIfInBounds_toArray, List.set_cons_zero, List.set_cons_succ] at hK ⊢
      go_simp
      refine (FL.out _).mono ?_
      rintro e w' ⟨rfl, hk⟩
      exact hK _ _ hk rfl (hg.call hk)
    refine Each.consA A hA (fun vs W hl => ?_) ?_
    · apply with54 hl
      clear hl vs
      intro v0 v1 v2 v3 v4 v5 v6 v7 v8 v9 v10 v11 v12 v13 v14 v15 v16 v17 v18 v19 v20 v21 v22 v23 v24 v25 v26 v27 v28 v29 v30 v31 v32 v33 v34 v35 v36 v37 v38 v39 v40 v41 v42 v43 v44 v45 v46 v47 v48 v49 v50 v51 v52 v53 hg hd K hK
      have d16 : v16 = Value.bool true := hd 16 v16 (by kernel_rfl) rfl
      subst d16
      have d19 : v19 = Value.bool false := hd 19 v19 (by kernel_rfl) rfl
      subst d19
      clear hd
      rw [if_pos (by rw [PUTS]; kernel_rfl)]
      simp only [PUTS, Act.put, List.setIfInBounds_toArray, List.set_cons_zero, List.set_cons_succ] at hK ⊢
      go_simp
      exact hK _ _ (Below.refl _ _) rfl hg
    refine Each.consA A hA (fun vs W hl => ?_) ?_
    · apply with54 hl
      clear hl vs
      intro v0 v1 v2 v3 v4 v5 v6 v7 v8 v9 v10 v11 v12 v13 v14 v15 v16 v17 v18 v19 v20 v21 v22 v23 v24 v25 v26 v27 v28 v29 v30 v31 v32 v33 v34 v35 v36 v37 v38 v39 v40 v41 v42 v43 v44 v45 v46 v47 v48 v49 v50 v51 v52 v53 hg hd K hK
      have d16 : v16 = Value.bool true := hd 16 v16 (by kernel_rfl) rfl
      subst d16
      have d20 : v20 = Value.bool true := hd 20 v20 (by kernel_rfl) rfl
      subst d20
      clear hd
      rw [if_pos (by rw [PUTS]; kernel_rfl)]
      simp only [PUTS, Act.put, List.setIfInBounds_toArray, List.set_cons_zero, List.set_cons_succ] at hK ⊢
      go_simp
      exact hK _ _ (Below.refl _ _) rfl hg
    refine Each.consA A hA (fun vs W hl => ?_) ?_
    · apply with54 hl
      clear hl vs
      intro v0 v1 v2 v3 v4 v5 v6 v7 v8 v9 v10 v11 v12 v13 v14 v15 v16 v17 v18 v19 v20 v21 v22 v23 v24 v25 v26 v27 v28 v29 v30 v31 v32 v33 v34 v35 v36 v37 v38 v39 v40 v41 v42 v43 v44 v45 v46 v47 v48 v49 v50 v51 v52 v53 hg hd K hK
      have d21 : v21 = Value.bool true := hd 21 v21 (by kernel_rfl) rfl
      subst d21
      clear hd
      rw [if_pos (by rw [PUTS]; kernel_rfl)]
      simp only [PUTS, Act.put, List.setIfInBounds_toArray, List.set_cons_zero, List.set_cons_succ] at hK ⊢
      go_simp
      exact hK _ _ (Below.refl _ _) rfl hg
    refine Each.consA A hA (fun vs W hl => ?_) ?_
    · apply with54 hl
      clear hl vs
      intro v0 v1 v2 v3 v4 v5 v6 v7 v8 v9 v10 v11 v12 v13 v14 v15 v16 v17 v18 v19 v20 v21 v22 v23 v24 v25 v26 v27 v28 v29 v30 v31 v32 v33 v34 v35 v36 v37 v38 v39 v40 v41 v42 v43 v44 v45 v46 v47 v48 v49 v50 v51 v52 v53 hg hd K hK
      have d22 : v22 = Value.bool true := hd 22 v22 (by kernel_rfl) rfl
      subst d22
      clear hd
      rw [if_pos (by rw [PUTS]; kernel_rfl)]
      simp only [PUTS, Act.put, List.setIfInBounds_toArray, List.set_cons_zero, List.set_cons_succ] at hK ⊢
      go_simp
      refine (at_any _ _ _).mono ?_
      rintro e w' ⟨rfl, hk⟩
      exact hK _ _ hk rfl (hg.call hk)
    refine Each.consA A hA (fun vs W hl => ?_) ?_
    · apply with54 hl
      clear hl vs
      intro v0 v1 v2 v3 v4 v5 v6 v7 v8 v9 v10 v11 v12 v13 v14 v15 v16 v17 v18 v19 v20 v21 v22 v23 v24 v25 v26 v27 v28 v29 v30 v31 v32 v33 v34 v35 v36 v37 v38 v39 v40 v41 v42 v43 v44 v45 v46 v47 v48 v49 v50 v51 v52 v53 hg hd K hK
      have d22 : v22 = Value.bool true := hd 22 v22 (by kernel_rfl) rfl
      subst d22
      clear hd
      rw [if_pos (by rw [PUTS]; kernel_rfl)]
      simp only [PUTS, Act.put, List.setIfInBounds_toArray, List.set_cons_zero, List.set_cons_succ] at hK ⊢
      have c0 := hg.high.c0
      have c1 := hg.high.c1
      go_simp
      exact hK _ _ (Below.refl _ _) rfl hg
    refine Each.consA A hA (fun vs W hl => ?_) ?_
    · apply with54 hl
      clear hl vs
      intro v0 v1 v2 v3 v4 v5 v6 v7 v8 v9 v10 v11 v12 v13 v14 v15 v16 v17 v18 v19 v20 v21 v22 v23 v24 v25 v26 v27 v28 v29 v30 v31 v32 v33 v34 v35 v36 v37 v38 v39 v40 v41 v42 v43 v44 v45 v46 v47 v48 v49 v50 v51 v52 v53 hg hd K hK
      have d22 : v22 = Value.bool true := hd 22 v22 (by kernel_rfl) rfl
      subst d22
      have d23 : v23 = Value.agg #[Value.int IntKind.i64 0, Value.int IntKind.u32 0] := hd 23 v23 (by kernel_rfl) rfl
      subst d23
      have d24 : v24 = Value.agg #[Value.int IntKind.i64 8, Value.int IntKind.u32 1] := hd 24 v24 (by kernel_rfl) rfl
      subst d24
      clear hd
      rw [if_pos (by rw [PUTS]; kernel_rfl)]
      simp only [PUTS, Act.put, List.setIfInBounds_toArray, List.set_cons_zero, List.set_cons_succ] at hK ⊢
      go_simp
      refine (FH.out _).mono ?_
      rintro e w' ⟨rfl, hk⟩
      exact hK _ _ hk rfl (hg.call hk)
    refine Each.consA A hA (fun vs W hl => ?_) ?_
    · apply with54 hl
      clear hl vs
      intro v0 v1 v2 v3 v4 v5 v6 v7 v8 v9 v10 v11 v12 v13 v14 v15 v16 v17 v18 v19 v20 v21 v22 v23 v24 v25 v26 v27 v28 v29 v30 v31 v32 v33 v34 v35 v36 v37 v38 v39 v40 v41 v42 v43 v44 v45 v46 v47 v48 v49 v50 v51 v52 v53 hg hd K hK
      have d22 : v22 = Value.bool true := hd 22 v22 (by kernel_rfl) rfl
      subst d22
      have d25 : v25 = Value.bool false := hd 25 v25 (by kernel_rfl) rfl
      subst d25
      clear hd
      rw [if_pos (by rw [PUTS]; kernel_rfl)]
      simp only [PUTS, Act.put, List.setIfInBounds_toArray, List.set_cons_zero, List.set_cons_succ] at hK ⊢
      go_simp
      exact hK _ _ (Below.refl _ _) rfl hg
    refine Each.consA A hA (fun vs W hl => ?_) ?_
    · apply with54 hl
      clear hl vs
      intro v0 v1 v2 v3 v4 v5 v6 v7 v8 v9 v10 v11 v12 v13 v14 v15 v16 v17 v18 v19 v20 v21 v22 v23 v24 v25 v26 v27 v28 v29 v30 v31 v32 v33 v34 v35 v36 v37 v38 v39 v40 v41 v42 v43 v44 v45 v46 v47 v48 v49 v50 v51 v52 v53 hg hd K hK
      have d22 : v22 = Value.bool true := hd 22 v22 (by kernel_rfl) rfl
      subst d22
      have d26 : v26 = Value.bool true := hd 26 v26 (by kernel_rfl) rfl
      subst d26
      clear hd
      rw [if_pos (by rw [PUTS]; kernel_rfl)]
      simp only [PUTS, Act.put, List.setIfInBounds_toArray, List.set_cons_zero, List.set_cons_succ] at hK ⊢
      go_simp
      exact hK _ _ (Below.refl _ _) rfl hg
    refine Each.consA A hA (fun vs W hl => ?_) ?_
    · apply with54 hl
      clear hl vs
      intro v0 v1 v2 v3 v4 v5 v6 v7 v8 v9 v10 v11 v12 v13 v14 v15 v16 v17 v18 v19 v20 v21 v22 v23 v24 v25 v26 v27 v28 v29 v30 v31 v32 v33 v34 v35 v36 v37 v38 v39 v40 v41 v42 v43 v44 v45 v46 v47 v48 v49 v50 v51 v52 v53 hg hd K hK
      have d27 : v27 = Value.bool true := hd 27 v27 (by kernel_rfl) rfl
      subst d27
      clear hd
      rw [if_pos (by rw [PUTS]; kernel_rfl)]
      simp only [PUTS, Act.put, List.setIfInBounds_toArray, List.set_cons_zero, List.set_cons_succ] at hK ⊢
      go_simp
      exact hK _ _ (Below.refl _ _) rfl hg
    refine Each.consA A hA (fun vs W hl => ?_) ?_
    · apply with54 hl
      clear hl vs
      intro v0 v1 v2 v3 v4 v5 v6 v7 v8 v9 v10 v11 v12 v13 v14 v15 v16 v17 v18 v19 v20 v21 v22 v23 v24 v25 v26 v27 v28 v29 v30 v31 v32 v33 v34 v35 v36 v37 v38 v39 v40 v41 v42 v43 v44 v45 v46 v47 v48 v49 v50 v51 v52 v53 hg hd K hK
      have d28 : v28 = Value.bool true := hd 28 v28 (by kernel_rfl) rfl
      subst d28
      clear hd
      rw [if_pos (by rw [PUTS]; kernel_rfl)]
      simp only [PUTS, Act.put, List.setIfInBounds_toArray, List.set_cons_zero, List.set_cons_succ] at hK ⊢
      go_simp
      refine (at_any _ _ _).mono ?_
      rintro e w' ⟨rfl, hk⟩
      exact hK _ _ hk rfl (hg.call hk)
    refine Each.consA A hA (fun vs W hl => ?_) ?_
    · apply with54 hl
      clear hl vs
      intro v0 v1 v2 v3 v4 v5 v6 v7 v8 v9 v10 v11 v12 v13 v14 v15 v16 v17 v18 v19 v20 v21 v22 v23 v24 v25 v26 v27 v28 v29 v30 v31 v32 v33 v34 v35 v36 v37 v38 v39 v40 v41 v42 v43 v44 v45 v46 v47 v48 v49 v50 v51 v52 v53 hg hd K hK
      have d28 : v28 = Value.bool true := hd 28 v28 (by kernel_rfl) rfl
      subst d28
      clear hd
      rw [if_pos (by rw [PUTS]; kernel_rfl)]
      simp only [PUTS, Act.put, List.setIfInBounds_toArray, List.set_cons_zero, List.set_cons_succ] at hK ⊢
      have c0 := hg.high.c0
      have c1 := hg.high.c1
      go_simp
      exact hK _ _ (Below.refl _ _) rfl hg
    refine Each.consA A hA (fun vs W hl => ?_) ?_
    · apply with54 hl
      clear hl vs
      intro v0 v1 v2 v3 v4 v5 v6 v7 v8 v9 v10 v11 v12 v13 v14 v15 v16 v17 v18 v19 v20 v21 v22 v23 v24 v25 v26 v27 v28 v29 v30 v31 v32 v33 v34 v35 v36 v37 v38 v39 v40 v41 v42 v43 v44 v45 v46 v47 v48 v49 v50 v51 v52 v53 hg hd K hK
      have d28 : v28 = Value.bool true := hd 28 v28 (by kernel_rfl) rfl
      subst d28
      have d29 : v29 = Value.agg #[Value.int IntKind.i64 1, Value.int IntKind.u32 1] := hd 29 v29 (by kernel_rfl) rfl
      subst d29
      have d30 : v30 = Value.agg #[Value.int IntKind.i64 8, Value.int IntKind.u32 1] := hd 30 v30 (by kernel_rfl) rfl
      subst d30
      clear hd
      rw [if_pos (by rw [PUTS]; kernel_rfl)]
      simp only [PUTS, Act.put, List.setIfInBounds_toArray, List.set_cons_zero, List.set_cons_succ] at hK ⊢
      go_simp
      exact hK _ _ (below1 _ _) (Ls.two _ _ _ _ _) (hg.alloc _)
    refine Each.consA A hA (fun vs W hl => ?_) ?_
    · apply with54 hl
      clear hl vs
      intro v0 v1 v2 v3 v4 v5 v6 v7 v8 v9 v10 v11 v12 v13 v14 v15 v16 v17 v18 v19 v20 v21 v22 v23 v24 v25 v26 v27 v28 v29 v30 v31 v32 v33 v34 v35 v36 v37 v38 v39 v40 v41 v42 v43 v44 v45 v46 v47 v48 v49 v50 v51 v52 v53 hg hd K hK
      have d28 : v28 = Value.bool true := hd 28 v28 (by kernel_rfl) rfl
      subst d28
      have d31 : Ls W v31 [(1, 1), (8, 1)] := hd 31 v31 (by kernel_rfl) rfl
      clear hd
      rw [if_pos (by rw [PUTS]; kernel_rfl)]
      simp only [PUTS, Act.put, List.setIfInBounds_toArray, List.set_cons_zero, List.set_cons_succ] at hK ⊢
      go_simp
      refine (join_is d31 0 0 (by decide) (by decide)).mono ?_
      rintro e w' ⟨rfl, hk⟩
      exact hK _ _ hk rfl (hg.call hk)
    refine Each.consA A hA (fun vs W hl => ?_) ?_
    · apply with54 hl
      clear hl vs
      intro v0 v1 v2 v3 v4 v5 v6 v7 v8 v9 v10 v11 v12 v13 v14 v15 v16 v17 v18 v19 v20 v21 v22 v23 v24 v25 v26 v27 v28 v29 v30 v31 v32 v33 v34 v35 v36 v37 v38 v39 v40 v41 v42 v43 v44 v45 v46 v47 v48 v49 v50 v51 v52 v53 hg hd K hK
      have d28 : v28 = Value.bool true := hd 28 v28 (by kernel_rfl) rfl
      subst d28
      clear hd
      rw [if_pos (by rw [PUTS]; kernel_rfl)]
      simp only [PUTS, Act.put, List.setIfInBounds_toArray, List.set_cons_zero, List.set_cons_succ] at hK ⊢
      go_simp
      refine (at_any _ _ _).mono ?_
      rintro e w' ⟨rfl, hk⟩
      exact hK _ _ hk rfl (hg.call hk)
    refine Each.consA A hA (fun vs W hl => ?_) ?_
    · apply with54 hl
      clear hl vs
      intro v0 v1 v2 v3 v4 v5 v6 v7 v8 v9 v10 v11 v12 v13 v14 v15 v16 v17 v18 v19 v20 v21 v22 v23 v24 v25 v26 v27 v28 v29 v30 v31 v32 v33 v34 v35 v36 v37 v38 v39 v40 v41 v42 v43 v44 v45 v46 v47 v48 v49 v50 v51 v52 v53 hg hd K hK
      have d28 : v28 = Value.bool true := hd 28 v28 (by kernel_rfl) rfl
      subst d28
      have d32 : v32 = Value.agg #[Value.int IntKind.i64 0, Value.int IntKind.u32 0] := hd 32 v32 (by kernel_rfl) rfl
      subst d32
      have d33 : v33 = Value.agg #[Value.int IntKind.i64 0, Value.int IntKind.u32 0] := hd 33 v33 (by kernel_rfl) rfl
      subst d33
      clear hd
      rw [if_pos (by rw [PUTS]; kernel_rfl)]
      simp only [PUTS, Act.put, List.setIfInBounds_toArray, List.set_cons_zero, List.set_cons_succ] at hK ⊢
      have e24 := eq24r
      go_simp
      exact hK _ _ (Below.refl _ _) (by first | rfl | simp) hg
    refine Each.consA A hA (fun vs W hl => ?_) ?_
    · apply with54 hl
      clear hl vs
      intro v0 v1 v2 v3 v4 v5 v6 v7 v8 v9 v10 v11 v12 v13 v14 v15 v16 v17 v18 v19 v20 v21 v22 v23 v24 v25 v26 v27 v28 v29 v30 v31 v32 v33 v34 v35 v36 v37 v38 v39 v40 v41 v42 v43 v44 v45 v46 v47 v48 v49 v50 v51 v52 v53 hg hd K hK
      have d28 : v28 = Value.bool true := hd 28 v28 (by kernel_rfl) rfl
      subst d28
      have d34 : v34 = Value.bool true := hd 34 v34 (by kernel_rfl) rfl
      subst d34
      clear hd
      rw [if_pos (by rw [PUTS]; kernel_rfl)]
      simp only [PUTS, Act.put, List.setIfInBounds_toArray, List.set_cons_zero, List.set_cons_succ] at hK ⊢
      go_simp
      exact hK _ _ (Below.refl _ _) rfl hg
    refine Each.consA A hA (fun vs W hl => ?_) ?_
    · apply with54 hl
      clear hl vs
      intro v0 v1 v2 v3 v4 v5 v6 v7 v8 v9 v10 v11 v12 v13 v14 v15 v16 v17 v18 v19 v20 v21 v22 v23 v24 v25 v26 v27 v28 v29 v30 v31 v32 v33 v34 v35 v36 v37 v38 v39 v40 v41 v42 v43 v44 v45 v46 v47 v48 v49 v50 v51 v52 v53 hg hd K hK
      have d35 : v35 = Value.bool true := hd 35 v35 (by kernel_rfl) rfl
      subst d35
      clear hd
      rw [if_pos (by rw [PUTS]; kernel_rfl)]
      simp only [PUTS, Act.put, List.setIfInBounds_toArray, List.set_cons_zero, List.set_cons_succ] at hK ⊢
      go_simp
      exact hK _ _ (Below.refl _ _) rfl hg
    refine Each.consA A hA (fun vs W hl => ?_) ?_
    · apply with54 hl
      clear hl vs
      intro v0 v1 v2 v3 v4 v5 v6 v7 v8 v9 v10 v11 v12 v13 v14 v15 v16 v17 v18 v19 v20 v21 v22 v23 v24 v25 v26 v27 v28 v29 v30 v31 v32 v33 v34 v35 v36 v37 v38 v39 v40 v41 v42 v43 v44 v45 v46 v47 v48 v49 v50 v51 v52 v53 hg hd K hK
      have d36 : v36 = Value.bool true := hd 36 v36 (by kernel_rfl) rfl
      subst d36
      clear hd
      rw [if_pos (by rw [PUTS]; kernel_rfl)]
      simp only [PUTS, Act.put, List.setIfInBounds_toArray, List.set_cons_zero, List.set_cons_succ] at hK ⊢
      have c0 := hg.low.c0
      have c1 := hg.low.c1
      go_simp
      exact hK _ _ (Below.refl _ _) rfl hg
    refine Each.consA A hA (fun vs W hl => ?_) ?_
    · apply with54 hl
      clear hl vs
      intro v0 v1 v2 v3 v4 v5 v6 v7 v8 v9 v10 v11 v12 v13 v14 v15 v16 v17 v18 v19 v20 v21 v22 v23 v24 v25 v26 v27 v28 v29 v30 v31 v32 v33 v34 v35 v36 v37 v38 v39 v40 v41 v42 v43 v44 v45 v46 v47 v48 v49 v50 v51 v52 v53 hg hd K hK
      have d36 : v36 = Value.bool true := hd 36 v36 (by kernel_rfl) rfl
      subst d36
      clear hd
      rw [if_pos (by rw [PUTS]; kernel_rfl)]
      simp only [PUTS, Act.put, List.setIfInBounds_toArray, List.set_cons_zero, List.set_cons_succ] at hK ⊢
      go_simp
      refine (at_any _ _ _).mono ?_
      rintro e w' ⟨rfl, hk⟩
      exact hK _ _ hk rfl (hg.call hk)
    refine Each.consA A hA (fun vs W hl => ?_) ?_
    · apply with54 hl
      clear hl vs
      intro v0 v1 v2 v3 v4 v5 v6 v7 v8 v9 v10 v11 v12 v13 v14 v15 v16 v17 v18 v19 v20 v21 v22 v23 v24 v25 v26 v27 v28 v29 v30 v31 v32 v33 v34 v35 v36 v37 v38 v39 v40 v41 v42 v43 v44 v45 v46 v47 v48 v49 v50 v51 v52 v53 hg hd K hK
      have d36 : v36 = Value.bool true := hd 36 v36 (by kernel_rfl) rfl
      subst d36
      have d37 : v37 = Value.agg #[Value.int IntKind.i64 (-1), Value.int IntKind.u32 1] := hd 37 v37 (by kernel_rfl) rfl
      subst d37
      have d38 : v38 = Value.agg #[Value.int IntKind.i64 1, Value.int IntKind.u32 1] := hd 38 v38 (by kernel_rfl) rfl
      subst d38
      clear hd
      rw [if_pos (by rw [PUTS]; kernel_rfl)]
      simp only [PUTS, Act.put, List.setIfInBounds_toArray, List.set_cons_zero, List.set_cons_succ] at hK ⊢
      go_simp
      refine (ME.out _).mono ?_
      rintro e w' ⟨rfl, hk⟩
      exact hK _ _ hk rfl (hg.call hk)
    refine Each.consA A hA (fun vs W hl => ?_) ?_
    · apply with54 hl
      clear hl vs
      intro v0 v1 v2 v3 v4 v5 v6 v7 v8 v9 v10 v11 v12 v13 v14 v15 v16 v17 v18 v19 v20 v21 v22 v23 v24 v25 v26 v27 v28 v29 v30 v31 v32 v33 v34 v35 v36 v37 v38 v39 v40 v41 v42 v43 v44 v45 v46 v47 v48 v49 v50 v51 v52 v53 hg hd K hK
      have d36 : v36 = Value.bool true := hd 36 v36 (by kernel_rfl) rfl
      subst d36
      clear hd
      rw [if_pos (by rw [PUTS]; kernel_rfl)]
      simp only [PUTS, Act.put, List.setIfInBounds_toArray, List.set_cons_zero, List.set_cons_succ] at hK ⊢
      go_simp
      refine (at_any _ _ _).mono ?_
      rintro e w' ⟨rfl, hk⟩
      exact hK _ _ hk rfl (hg.call hk)
    refine Each.consA A hA (fun vs W hl => ?_) ?_
    · apply with54 hl
      clear hl vs
      intro v0 v1 v2 v3 v4 v5 v6 v7 v8 v9 v10 v11 v12 v13 v14 v15 v16 v17 v18 v19 v20 v21 v22 v23 v24 v25 v26 v27 v28 v29 v30 v31 v32 v33 v34 v35 v36 v37 v38 v39 v40 v41 v42 v43 v44 v45 v46 v47 v48 v49 v50 v51 v52 v53 hg hd K hK
      have d36 : v36 = Value.bool true := hd 36 v36 (by kernel_rfl) rfl
      subst d36
      have d39 : v39 = Value.agg #[Value.int IntKind.i64 0, Value.int IntKind.u32 0] := hd 39 v39 (by kernel_rfl) rfl
      subst d39
      have d40 : v40 = Value.agg #[Value.int IntKind.i64 0, Value.int IntKind.u32 0] := hd 40 v40 (by kernel_rfl) rfl
      subst d40
      clear hd
      rw [if_pos (by rw [PUTS]; kernel_rfl)]
      simp only [PUTS, Act.put, List.setIfInBounds_toArray, List.set_cons_zero, List.set_cons_succ] at hK ⊢
      have e24 := eq24r
      go_simp
      exact hK _ _ (Below.refl _ _) (by first | rfl | simp) hg
    refine Each.consA A hA (fun vs W hl => ?_) ?_
    · apply with54 hl
      clear hl vs
      intro v0 v1 v2 v3 v4 v5 v6 v7 v8 v9 v10 v11 v12 v13 v14 v15 v16 v17 v18 v19 v20 v21 v22 v23 v24 v25 v26 v27 v28 v29 v30 v31 v32 v33 v34 v35 v36 v37 v38 v39 v40 v41 v42 v43 v44 v45 v46 v47 v48 v49 v50 v51 v52 v53 hg hd K hK
      have d36 : v36 = Value.bool true := hd 36 v36 (by kernel_rfl) rfl
      subst d36
      have d41 : v41 = Value.bool true := hd 41 v41 (by kernel_rfl) rfl
      subst d41
      clear hd
      rw [if_pos (by rw [PUTS]; kernel_rfl)]
      simp only [PUTS, Act.put, List.setIfInBounds_toArray, List.set_cons_zero, List.set_cons_succ] at hK ⊢
      go_simp
      exact hK _ _ (Below.refl _ _) rfl hg
    refine Each.consA A hA (fun vs W hl => ?_) ?_
    · apply with54 hl
      clear hl vs
      intro v0 v1 v2 v3 v4 v5 v6 v7 v8 v9 v10 v11 v12 v13 v14 v15 v16 v17 v18 v19 v20 v21 v22 v23 v24 v25 v26 v27 v28 v29 v30 v31 v32 v33 v34 v35 v36 v37 v38 v39 v40 v41 v42 v43 v44 v45 v46 v47 v48 v49 v50 v51 v52 v53 hg hd K hK
      have d42 : v42 = Value.bool true := hd 42 v42 (by kernel_rfl) rfl
      subst d42
      clear hd
      rw [if_pos (by rw [PUTS]; kernel_rfl)]
      simp only [PUTS, Act.put, List.setIfInBounds_toArray, List.set_cons_zero, List.set_cons_succ] at hK ⊢
      go_simp
      exact hK _ _ (Below.refl _ _) rfl hg
    refine Each.consA A hA (fun vs W hl => ?_) ?_
    · apply with54 hl
      clear hl vs
      intro v0 v1 v2 v3 v4 v5 v6 v7 v8 v9 v10 v11 v12 v13 v14 v15 v16 v17 v18 v19 v20 v21 v22 v23 v24 v25 v26 v27 v28 v29 v30 v31 v32 v33 v34 v35 v36 v37 v38 v39 v40 v41 v42 v43 v44 v45 v46 v47 v48 v49 v50 v51 v52 v53 hg hd K hK
      have d43 : v43 = Value.bool true := hd 43 v43 (by kernel_rfl) rfl
      subst d43
      clear hd
      rw [if_pos (by rw [PUTS]; kernel_rfl)]
      simp only [PUTS, Act.put, List.setIfInBounds_toArray, List.set_cons_zero, List.set_cons_succ] at hK ⊢
      have c0 := hg.high.c0
      have c1 := hg.high.c1
      go_simp
      exact hK _ _ (Below.refl _ _) rfl hg
    refine Each.consA A hA (fun vs W hl => ?_) ?_
    · apply with54 hl
      clear hl vs
      intro v0 v1 v2 v3 v4 v5 v6 v7 v8 v9 v10 v11 v12 v13 v14 v15 v16 v17 v18 v19 v20 v21 v22 v23 v24 v25 v26 v27 v28 v29 v30 v31 v32 v33 v34 v35 v36 v37 v38 v39 v40 v41 v42 v43 v44 v45 v46 v47 v48 v49 v50 v51 v52 v53 hg hd K hK
      have d43 : v43 = Value.bool true := hd 43 v43 (by kernel_rfl) rfl
      subst d43
      have d44 : v44 = Value.agg #[Value.int IntKind.i64 8, Value.int IntKind.u32 1] := hd 44 v44 (by kernel_rfl) rfl
      subst d44
      clear hd
      rw [if_pos (by rw [PUTS]; kernel_rfl)]
      simp only [PUTS, Act.put, List.setIfInBounds_toArray, List.set_cons_zero, List.set_cons_succ] at hK ⊢
      go_simp
      refine (text_bad _ _ _ rfl).mono ?_
      rintro e w' ⟨rfl, hk⟩
      exact hK _ _ hk rfl (hg.call hk)
    refine Each.consA A hA (fun vs W hl => ?_) ?_
    · apply with54 hl
      clear hl vs
      intro v0 v1 v2 v3 v4 v5 v6 v7 v8 v9 v10 v11 v12 v13 v14 v15 v16 v17 v18 v19 v20 v21 v22 v23 v24 v25 v26 v27 v28 v29 v30 v31 v32 v33 v34 v35 v36 v37 v38 v39 v40 v41 v42 v43 v44 v45 v46 v47 v48 v49 v50 v51 v52 v53 hg hd K hK
      have d43 : v43 = Value.bool true := hd 43 v43 (by kernel_rfl) rfl
      subst d43
      have d45 : v45 = Value.string ⟨#[]⟩ := hd 45 v45 (by kernel_rfl) rfl
      subst d45
      clear hd
      rw [if_pos (by rw [PUTS]; kernel_rfl)]
      simp only [PUTS, Act.put, List.setIfInBounds_toArray, List.set_cons_zero, List.set_cons_succ] at hK ⊢
      go_simp
      exact hK _ _ (Below.refl _ _) (by first | rfl | simp) hg
    refine Each.consA A hA (fun vs W hl => ?_) ?_
    · apply with54 hl
      clear hl vs
      intro v0 v1 v2 v3 v4 v5 v6 v7 v8 v9 v10 v11 v12 v13 v14 v15 v16 v17 v18 v19 v20 v21 v22 v23 v24 v25 v26 v27 v28 v29 v30 v31 v32 v33 v34 v35 v36 v37 v38 v39 v40 v41 v42 v43 v44 v45 v46 v47 v48 v49 v50 v51 v52 v53 hg hd K hK
      have d43 : v43 = Value.bool true := hd 43 v43 (by kernel_rfl) rfl
      subst d43
      have d46 : v46 = Value.bool true := hd 46 v46 (by kernel_rfl) rfl
      subst d46
      clear hd
      rw [if_pos (by rw [PUTS]; kernel_rfl)]
      simp only [PUTS, Act.put, List.setIfInBounds_toArray, List.set_cons_zero, List.set_cons_succ] at hK ⊢
      go_simp
      exact hK _ _ (Below.refl _ _) rfl hg
    refine Each.consA A hA (fun vs W hl => ?_) ?_
    · apply with54 hl
      clear hl vs
      intro v0 v1 v2 v3 v4 v5 v6 v7 v8 v9 v10 v11 v12 v13 v14 v15 v16 v17 v18 v19 v20 v21 v22 v23 v24 v25 v26 v27 v28 v29 v30 v31 v32 v33 v34 v35 v36 v37 v38 v39 v40 v41 v42 v43 v44 v45 v46 v47 v48 v49 v50 v51 v52 v53 hg hd K hK
      have d47 : v47 = Value.bool true := hd 47 v47 (by kernel_rfl) rfl
      subst d47
      clear hd
      rw [if_pos (by rw [PUTS]; kernel_rfl)]
      simp only [PUTS, Act.put, List.setIfInBounds_toArray, List.set_cons_zero, List.set_cons_succ] at hK ⊢
      go_simp
      exact hK _ _ (Below.refl _ _) rfl hg
    refine Each.consA A hA (fun vs W hl => ?_) ?_
    · apply with54 hl
      clear hl vs
      intro v0 v1 v2 v3 v4 v5 v6 v7 v8 v9 v10 v11 v12 v13 v14 v15 v16 v17 v18 v19 v20 v21 v22 v23 v24 v25 v26 v27 v28 v29 v30 v31 v32 v33 v34 v35 v36 v37 v38 v39 v40 v41 v42 v43 v44 v45 v46 v47 v48 v49 v50 v51 v52 v53 hg hd K hK
      have d48 : v48 = Value.bool true := hd 48 v48 (by kernel_rfl) rfl
      subst d48
      clear hd
      rw [if_pos (by rw [PUTS]; kernel_rfl)]
      simp only [PUTS, Act.put, List.setIfInBounds_toArray, List.set_cons_zero, List.set_cons_succ] at hK ⊢
      have c0 := hg.low.c0
      have c1 := hg.low.c1
      go_simp
      exact hK _ _ (Below.refl _ _) rfl hg
    refine Each.consA A hA (fun vs W hl => ?_) ?_
    · apply with54 hl
      clear hl vs
      intro v0 v1 v2 v3 v4 v5 v6 v7 v8 v9 v10 v11 v12 v13 v14 v15 v16 v17 v18 v19 v20 v21 v22 v23 v24 v25 v26 v27 v28 v29 v30 v31 v32 v33 v34 v35 v36 v37 v38 v39 v40 v41 v42 v43 v44 v45 v46 v47 v48 v49 v50 v51 v52 v53 hg hd K hK
      have d48 : v48 = Value.bool true := hd 48 v48 (by kernel_rfl) rfl
      subst d48
      have d49 : v49 = Value.agg #[Value.int IntKind.i64 (-1), Value.int IntKind.u32 1] := hd 49 v49 (by kernel_rfl) rfl
      subst d49
      clear hd
      rw [if_pos (by rw [PUTS]; kernel_rfl)]
      simp only [PUTS, Act.put, List.setIfInBounds_toArray, List.set_cons_zero, List.set_cons_succ] at hK ⊢
      go_simp
      refine (text_bad _ _ _ rfl).mono ?_
      rintro e w' ⟨rfl, hk⟩
      exact hK _ _ hk rfl (hg.call hk)
    refine Each.consA A hA (fun vs W hl => ?_) ?_
    · apply with54 hl
      clear hl vs
      intro v0 v1 v2 v3 v4 v5 v6 v7 v8 v9 v10 v11 v12 v13 v14 v15 v16 v17 v18 v19 v20 v21 v22 v23 v24 v25 v26 v27 v28 v29 v30 v31 v32 v33 v34 v35 v36 v37 v38 v39 v40 v41 v42 v43 v44 v45 v46 v47 v48 v49 v50 v51 v52 v53 hg hd K hK
      have d48 : v48 = Value.bool true := hd 48 v48 (by kernel_rfl) rfl
      subst d48
      have d50 : v50 = Value.string ⟨#[]⟩ := hd 50 v50 (by kernel_rfl) rfl
      subst d50
      clear hd
      rw [if_pos (by rw [PUTS]; kernel_rfl)]
      simp only [PUTS, Act.put, List.setIfInBounds_toArray, List.set_cons_zero, List.set_cons_succ] at hK ⊢
      go_simp
      exact hK _ _ (Below.refl _ _) (by first | rfl | simp) hg
    refine Each.consA A hA (fun vs W hl => ?_) ?_
    · apply with54 hl
      clear hl vs
      intro v0 v1 v2 v3 v4 v5 v6 v7 v8 v9 v10 v11 v12 v13 v14 v15 v16 v17 v18 v19 v20 v21 v22 v23 v24 v25 v26 v27 v28 v29 v30 v31 v32 v33 v34 v35 v36 v37 v38 v39 v40 v41 v42 v43 v44 v45 v46 v47 v48 v49 v50 v51 v52 v53 hg hd K hK
      have d48 : v48 = Value.bool true := hd 48 v48 (by kernel_rfl) rfl
      subst d48
      have d51 : v51 = Value.bool true := hd 51 v51 (by kernel_rfl) rfl
      subst d51
      clear hd
      rw [if_pos (by rw [PUTS]; kernel_rfl)]
      simp only [PUTS, Act.put, List.setIfInBounds_toArray, List.set_cons_zero, List.set_cons_succ] at hK ⊢
      go_simp
      exact hK _ _ (Below.refl _ _) rfl hg
    refine Each.consA A hA (fun vs W hl => ?_) ?_
    · apply with54 hl
      clear hl vs
      intro v0 v1 v2 v3 v4 v5 v6 v7 v8 v9 v10 v11 v12 v13 v14 v15 v16 v17 v18 v19 v20 v21 v22 v23 v24 v25 v26 v27 v28 v29 v30 v31 v32 v33 v34 v35 v36 v37 v38 v39 v40 v41 v42 v43 v44 v45 v46 v47 v48 v49 v50 v51 v52 v53 hg hd K hK
      have d52 : v52 = Value.bool true := hd 52 v52 (by kernel_rfl) rfl
      subst d52
      clear hd
      rw [if_pos (by rw [PUTS]; kernel_rfl)]
      simp only [PUTS, Act.put, List.setIfInBounds_toArray, List.set_cons_zero, List.set_cons_succ] at hK ⊢
      go_simp
      exact hK _ _ (Below.refl _ _) rfl hg
    exact Each.nil
  · intro vs W hl
    apply with54 hl
    clear hl vs
    intro v0 v1 v2 v3 v4 v5 v6 v7 v8 v9 v10 v11 v12 v13 v14 v15 v16 v17 v18 v19 v20 v21 v22 v23 v24 v25 v26 v27 v28 v29 v30 v31 v32 v33 v34 v35 v36 v37 v38 v39 v40 v41 v42 v43 v44 v45 v46 v47 v48 v49 v50 v51 v52 v53 hg hall
    have d0 : v0 = Value.int IntKind.i64 9 := hall 0 v0 rfl
    subst d0
    have d1 : v1 = Value.bool true := hall 1 v1 rfl
    subst d1
    have d2 : v2 = Value.bool true := hall 2 v2 rfl
    subst d2
    have d3 : v3 = Value.int IntKind.i64 9 := hall 3 v3 rfl
    subst d3
    have d4 : v4 = Value.bool true := hall 4 v4 rfl
    subst d4
    have d5 : v5 = Value.bool true := hall 5 v5 rfl
    subst d5
    have d6 : v6 = Value.bool true := hall 6 v6 rfl
    subst d6
    have d7 : v7 = Value.agg #[Value.int IntKind.i64 (-1), Value.int IntKind.u32 1] := hall 7 v7 rfl
    subst d7
    have d8 : v8 = Value.int IntKind.i64 9 := hall 8 v8 rfl
    subst d8
    have d9 : v9 = Value.bool true := hall 9 v9 rfl
    subst d9
    have d10 : v10 = Value.bool true := hall 10 v10 rfl
    subst d10
    have d11 : v11 = Value.bool true := hall 11 v11 rfl
    subst d11
    have d12 : v12 = Value.agg #[Value.int IntKind.i64 8, Value.int IntKind.u32 1] := hall 12 v12 rfl
    subst d12
    have d13 : v13 = Value.int IntKind.i64 9 := hall 13 v13 rfl
    subst d13
    have d14 : v14 = Value.bool true := hall 14 v14 rfl
    subst d14
    have d15 : v15 = Value.bool true := hall 15 v15 rfl
    subst d15
    have d16 : v16 = Value.bool true := hall 16 v16 rfl
    subst d16
    have d17 : v17 = Value.agg #[Value.int IntKind.i64 (-1), Value.int IntKind.u32 1] := hall 17 v17 rfl
    subst d17
    have d18 : v18 = Value.agg #[Value.int IntKind.i64 7, Value.int IntKind.u32 1] := hall 18 v18 rfl
    subst d18
    have d19 : v19 = Value.bool false := hall 19 v19 rfl
    subst d19
    have d20 : v20 = Value.bool true := hall 20 v20 rfl
    subst d20
    have d21 : v21 = Value.bool true := hall 21 v21 rfl
    subst d21
    have d22 : v22 = Value.bool true := hall 22 v22 rfl
    subst d22
    have d23 : v23 = Value.agg #[Value.int IntKind.i64 0, Value.int IntKind.u32 0] := hall 23 v23 rfl
    subst d23
    have d24 : v24 = Value.agg #[Value.int IntKind.i64 8, Value.int IntKind.u32 1] := hall 24 v24 rfl
    subst d24
    have d25 : v25 = Value.bool false := hall 25 v25 rfl
    subst d25
    have d26 : v26 = Value.bool true := hall 26 v26 rfl
    subst d26
    have d27 : v27 = Value.bool true := hall 27 v27 rfl
    subst d27
    have d28 : v28 = Value.bool true := hall 28 v28 rfl
    subst d28
    have d29 : v29 = Value.agg #[Value.int IntKind.i64 1, Value.int IntKind.u32 1] := hall 29 v29 rfl
    subst d29
    have d30 : v30 = Value.agg #[Value.int IntKind.i64 8, Value.int IntKind.u32 1] := hall 30 v30 rfl
    subst d30
    have d31 : Ls W v31 [(1, 1), (8, 1)] := hall 31 v31 rfl
    have d32 : v32 = Value.agg #[Value.int IntKind.i64 0, Value.int IntKind.u32 0] := hall 32 v32 rfl
    subst d32
    have d33 : v33 = Value.agg #[Value.int IntKind.i64 0, Value.int IntKind.u32 0] := hall 33 v33 rfl
    subst d33
    have d34 : v34 = Value.bool true := hall 34 v34 rfl
    subst d34
    have d35 : v35 = Value.bool true := hall 35 v35 rfl
    subst d35
    have d36 : v36 = Value.bool true := hall 36 v36 rfl
    subst d36
    have d37 : v37 = Value.agg #[Value.int IntKind.i64 (-1), Value.int IntKind.u32 1] := hall 37 v37 rfl
    subst d37
    have d38 : v38 = Value.agg #[Value.int IntKind.i64 1, Value.int IntKind.u32 1] := hall 38 v38 rfl
    subst d38
    have d39 : v39 = Value.agg #[Value.int IntKind.i64 0, Value.int IntKind.u32 0] := hall 39 v39 rfl
    subst d39
    have d40 : v40 = Value.agg #[Value.int IntKind.i64 0, Value.int IntKind.u32 0] := hall 40 v40 rfl
    subst d40
    have d41 : v41 = Value.bool true := hall 41 v41 rfl
    subst d41
    have d42 : v42 = Value.bool true := hall 42 v42 rfl
    subst d42
    have d43 : v43 = Value.bool true := hall 43 v43 rfl
    subst d43
    have d44 : v44 = Value.agg #[Value.int IntKind.i64 8, Value.int IntKind.u32 1] := hall 44 v44 rfl
    subst d44
    have d45 : v45 = Value.string ⟨#[]⟩ := hall 45 v45 rfl
    subst d45
    have d46 : v46 = Value.bool true := hall 46 v46 rfl
    subst d46
    have d47 : v47 = Value.bool true := hall 47 v47 rfl
    subst d47
    have d48 : v48 = Value.bool true := hall 48 v48 rfl
    subst d48
    have d49 : v49 = Value.agg #[Value.int IntKind.i64 (-1), Value.int IntKind.u32 1] := hall 49 v49 rfl
    subst d49
    have d50 : v50 = Value.string ⟨#[]⟩ := hall 50 v50 rfl
    subst d50
    have d51 : v51 = Value.bool true := hall 51 v51 rfl
    subst d51
    have d52 : v52 = Value.bool true := hall 52 v52 rfl
    subst d52
    have d53 : v53 = Value.bool true := hall 53 v53 rfl
    subst d53
    clear hall
    simp only [puts, Act.put, List.setIfInBounds_toArray, List.set_cons_zero, List.set_cons_succ, List.take_succ_cons, List.take_zero, List.drop_succ_cons, List.drop_zero]
    have B6 := hd hg.bel
    clear hg
    go_wp2_with fail
    refine (at_any 7 4294967295 _).mono ?_
    rintro e w6 ⟨rfl, hk⟩
    have B7 := hd (below_below B6.out hk)
    clear hk B6
    go_wp2_with fail
    refine (bytes6 w6).mono ?_
    rintro e w7 ⟨g8, o8, c8, rfl, hc8, ho, hrest, hk⟩
    have B8 := hd (below_below B7.out hk)
    clear hk B7
    obtain ⟨v10, w8, hrun, ho10, hk8⟩ := top6 hrest
    have HV := hd ho10
    have HK8 := hd hk8
    clear ho10 hk8 hrest ho
    obtain ⟨a10, c10, rfl⟩ := HV.out.len
    simp only [List.length_cons, List.length_nil, Nat.zero_add, Nat.reduceAdd] at hrun HV
    have HR := hd hrun
    clear hrun
    go_wp2_with (at_builtin; refine wpList_append_run _ rfl _ _ _ _ rfl _ _ rfl rfl _ w8 HR.out ?_)
    refine (New_bx HV.out.all).mono ?_
    rintro e w9 ⟨r1, rfl, hr1, hrd, hk⟩
    have HK9 := hd hk
    have HR1 := hd hr1
    have HRD := hd hrd
    clear hk hr1 hrd HR HV
    go_wp2_with fail
    refine (take_a HRD.out HR1.out).mono ?_
    rintro e wa ⟨rfl, hrd, hk⟩
    have B := hd (below_below (below_below B8.out HK8.out) (below_kp HK9.out HR1.out hk))
    have Q1 := hd hrd
    generalize w8.heap.size = n1 at *
    clear hk hrd HK9 HK8 HRD HR1 B8
    clear w9
    generalize wa = w8 at *
    go_wp2_with fail
    have ho : Ow w8.heap.size (w8.alloc (Obj.cells #[Value.int IntKind.u8 1, Value.int IntKind.u8 241, Value.int IntKind.u8 0, Value.int IntKind.u8 0, Value.int IntKind.u8 0, Value.int IntKind.u8 0] 5)) (.slice (some ⟨w8.heap.size, 0, none⟩) 6 6) [1, 241, 0, 0, 0, 0] := Ow.new w8 [1, 241, 0, 0, 0, 0] (byt_dec _ rfl) (by decide)
    have hb := below1 w8 (Obj.cells #[Value.int IntKind.u8 1, Value.int IntKind.u8 241, Value.int IntKind.u8 0, Value.int IntKind.u8 0, Value.int IntKind.u8 0, Value.int IntKind.u8 0] 5)
    generalize w8.alloc (Obj.cells #[Value.int IntKind.u8 1, Value.int IntKind.u8 241, Value.int IntKind.u8 0, Value.int IntKind.u8 0, Value.int IntKind.u8 0, Value.int IntKind.u8 0] 5) = wx at *
    have HO := hd ho
    have HB := hd hb
    clear ho hb
    refine (New_bx HO.out.all).mono ?_
    rintro e wy ⟨r2, rfl, hr, hrd, hk⟩
    have HK := hd hk
    have HRR := hd hr
    have HRD := hd hrd
    clear hk hr hrd HO
    go_wp2_with fail
    refine (take_b HRD.out HRR.out).mono ?_
    rintro e wb ⟨rfl, hrd, hk⟩
    have HN := below_below HB.out (below_kp HK.out HRR.out hk)
    have B' := hd (below_below B.out HN)
    clear B
    have B := B'
    clear B'
    have Q1' := hd (Q1.out.keep HN)
    clear Q1
    have Q1 := Q1'
    clear Q1'
    have Q2 := hd hrd
    generalize wx.heap.size = n2 at *
    clear hk hrd HN HRD HRR HK HB
    clear wx wy
    go_wp2_with fail
    have ho : Ow wb.heap.size (wb.alloc (Obj.cells #[Value.int IntKind.u8 1, Value.int IntKind.u8 240, Value.int IntKind.u8 128, Value.int IntKind.u8 0, Value.int IntKind.u8 0, Value.int IntKind.u8 0] 5)) (.slice (some ⟨wb.heap.size, 0, none⟩) 6 6) [1, 240, 128, 0, 0, 0] := Ow.new wb [1, 240, 128, 0, 0, 0] (byt_dec _ rfl) (by decide)
    have hb := below1 wb (Obj.cells #[Value.int IntKind.u8 1, Value.int IntKind.u8 240, Value.int IntKind.u8 128, Value.int IntKind.u8 0, Value.int IntKind.u8 0, Value.int IntKind.u8 0] 5)
    generalize wb.alloc (Obj.cells #[Value.int IntKind.u8 1, Value.int IntKind.u8 240, Value.int IntKind.u8 128, Value.int IntKind.u8 0, Value.int IntKind.u8 0, Value.int IntKind.u8 0] 5) = wx at *
    have HO := hd ho
    have HB := hd hb
    clear ho hb
    refine (New_bx HO.out.all).mono ?_
    rintro e wy ⟨r3, rfl, hr, hrd, hk⟩
    have HK := hd hk
    have HRR := hd hr
    have HRD := hd hrd
    clear hk hr hrd HO
    go_wp2_with fail
    refine (take_c HRD.out HRR.out).mono ?_
    rintro e wc ⟨rfl, hrd, hk⟩
    have HN := below_below HB.out (below_kp HK.out HRR.out hk)
    have B' := hd (below_below B.out HN)
    clear B
    have B := B'
    clear B'
    have Q1' := hd (Q1.out.keep HN)
    clear Q1
    have Q1 := Q1'
    clear Q1'
    have Q2' := hd (Q2.out.keep HN)
    clear Q2
    have Q2 := Q2'
    clear Q2'
    have Q3 := hd hrd
    generalize wx.heap.size = n3 at *
    clear hk hrd HN HRD HRR HK HB
    clear wx wy
    go_wp2_with fail
    have A1 : KA w n1 r1 n2 r2 n3 r3 wc.heap.size (wc.alloc (Obj.cells #[Value.int IntKind.i64 1, Value.int IntKind.u32 2147483648] 24)) := ⟨below_below B.out (below1 _ _), Q1.out.keep (below1 _ _), Q2.out.keep (below1 _ _), Q3.out.keep (below1 _ _), Lb.new _ _ _⟩
    clear B Q1 Q2 Q3
    go_wp2_with fail
    have A2 := hd (A1.call (below1 (wc.alloc (Obj.cells #[Value.int IntKind.i64 1, Value.int IntKind.u32 2147483648] 24)) (Obj.cells #[Value.string ⟨#[]⟩, Value.string ⟨#[48, 48]⟩, Value.string ⟨#[51, 58]⟩, Value.string ⟨#[51, 58, 49]⟩, Value.string ⟨#[51, 58, 48, 48, 48, 48, 48, 48, 49]⟩, Value.string ⟨#[51, 58, 48, 48, 48, 48, 48, 48, 48, 49, 49]⟩, Value.string ⟨#[51, 59, 48, 48, 48, 48, 48, 48, 48, 49]⟩, Value.string ⟨#[97]⟩, Value.string ⟨#[51, 58, 48, 48, 48, 48, 48, 48, 48, 65]⟩, Value.string ⟨#[32, 51]⟩] 9)))
    have SS := ss_new (wc.alloc (Obj.cells #[Value.int IntKind.i64 1, Value.int IntKind.u32 2147483648] 24))
    rw [World.size_alloc] at SS
    have S2 := hd SS
    clear A1 SS
    generalize (wc.alloc (Obj.cells #[Value.int IntKind.i64 1, Value.int IntKind.u32 2147483648] 24)).alloc (Obj.cells #[Value.string ⟨#[]⟩, Value.string ⟨#[48, 48]⟩, Value.string ⟨#[51, 58]⟩, Value.string ⟨#[51, 58, 49]⟩, Value.string ⟨#[51, 58, 48, 48, 48, 48, 48, 48, 49]⟩, Value.string ⟨#[51, 58, 48, 48, 48, 48, 48, 48, 48, 49, 49]⟩, Value.string ⟨#[51, 59, 48, 48, 48, 48, 48, 48, 48, 49]⟩, Value.string ⟨#[97]⟩, Value.string ⟨#[51, 58, 48, 48, 48, 48, 48, 48, 48, 65]⟩, Value.string ⟨#[32, 51]⟩] 9) = we at *
    generalize wc.heap.size = gw at *
    go_loopw [15] (fun i wr => ∃ k : Nat, k ≤ 10 ∧ i = .int .i64 (k : Int) ∧ KA w n1 r1 n2 r2 n3 r3 gw wr ∧ Ss (gw + 1) wr) (fun i _ => 10 - (intOf i).toNat)
    case atStart => exact ⟨0, Nat.zero_le _, rfl, A2.out, S2.out⟩
    case round =>
      obtain ⟨k, hk, rfl, hA, hS⟩ := hrel
      have HA := hd hA
      have HS := hd hS
      clear hA hS A2 S2
      by_cases hlt : k < 10
      · have hlt' : (k : Int) < 10 := by omega
        have c0 := HS.out.2 k hlt
        have HL := hd hlt
        go_wp2_with fail
        refine (bad_all k HL.out _).mono ?_
        rintro e wg ⟨rfl, hk1⟩
        have HA1 := hd (HA.out.call hk1)
        have HS1 := hd (HS.out.keep hk1)
        clear hk1 HA HS c0
        unfold le
        go_wp2_with fail
        go_roundw
        case rel => exact ⟨k + 1, by have := HL.out; omega, by go_num, HA1.out.call (below1 _ _), HS1.out.keep (below1 _ _)⟩
        case measure => simp [intOf]; omega
      · have h10 : k = 10 := by omega
        subst h10
        clear hk hlt HS
        go_wp2_with fail
        refine (readff _).mono ?_
        rintro e wh ⟨rfl, hk⟩
        have A3 := HA.out.call hk
        clear HA hk
        unfold le
        go_wp2_with fail
        have F4 := hd (Lb.new wh 7 4294967295)
        have A4 := hd (A3.call (below1 wh (Obj.cells #[Value.int IntKind.i64 7, Value.int IntKind.u32 4294967295] 24)))
        clear A3
        generalize wh.heap.size = gf at *
        generalize wh.alloc (Obj.cells #[Value.int IntKind.i64 7, Value.int IntKind.u32 4294967295] 24) = wi at *
        refine (Take_nr (p := none) (Or.inl rfl)).mono ?_
        rintro e wj ⟨rfl, hk⟩
        have A5 := hd (A4.out.call hk)
        have F5 := hd (F4.out.keep hk)
        clear A4 F4 hk
        go_wp2_with fail
        have NR6 := nr_new wj
        have A6 := hd (A5.out.call (below2 wj (Obj.cells #[Value.int IntKind.i64 0, Value.int IntKind.u32 0] 24) (Obj.cells #[Value.bool false, Value.slice none 0 0, Value.int IntKind.i64 0] 42)))
        have F6 := hd (F5.out.keep (below2 wj (Obj.cells #[Value.int IntKind.i64 0, Value.int IntKind.u32 0] 24) (Obj.cells #[Value.bool false, Value.slice none 0 0, Value.int IntKind.i64 0] 42)))
        have N6 : Hid (Lb ((wj.alloc (Obj.cells #[Value.int IntKind.i64 0, Value.int IntKind.u32 0] 24)).alloc (Obj.cells #[Value.bool false, Value.slice none 0 0, Value.int IntKind.i64 0] 42)) wj.heap.size 0 0) := hd ((Lb.new wj 0 0).alloc _)
        clear A5 F5
        generalize (wj.alloc (Obj.cells #[Value.int IntKind.i64 0, Value.int IntKind.u32 0] 24)).alloc (Obj.cells #[Value.bool false, Value.slice none 0 0, Value.int IntKind.i64 0] 42) = wk at *
        generalize wj.heap.size = gn at *
        refine (Take_nr NR6).mono ?_
        rintro e wl ⟨rfl, hk⟩
        have A7 := hd (A6.out.call hk)
        have F7 := hd (F6.out.keep hk)
        have N7 := hd (N6.out.keep hk)
        clear A6 F6 N6 NR6 hk
        go_wp2_with fail
        have A22 : KB w n1 r1 n2 r2 n3 r3 gw gf gn wl.heap.size (wl.alloc (Obj.cells #[Value.int IntKind.i64 0, Value.int IntKind.u32 0] 24)) := ⟨A7.out.call (below1 wl (Obj.cells #[Value.int IntKind.i64 0, Value.int IntKind.u32 0] 24)), F7.out.keep (below1 wl (Obj.cells #[Value.int IntKind.i64 0, Value.int IntKind.u32 0] 24)), N7.out.keep (below1 wl (Obj.cells #[Value.int IntKind.i64 0, Value.int IntKind.u32 0] 24)), Lb.new wl 0 0⟩
        clear A7 F7 N7
        generalize wl.alloc (Obj.cells #[Value.int IntKind.i64 0, Value.int IntKind.u32 0] 24) = wm at *
        generalize wl.heap.size = gz at *
        refine wp_region_each 55 (fun W W' => Below W.heap.size W W') (fun i v W => match i with | 0 => v = Value.bool true | 1 => v = Value.bool true | 2 => v = Value.bool true | 3 => v = Value.bool true | 4 => v = Value.bool true | 5 => v = Value.bool true | 6 => v = Value.bool true | 7 => v = Value.int IntKind.i64 0 | 8 => v = Value.bool true | 9 => v = Value.bool true | 10 => v = Value.bool true | 11 => v = Value.slice (some ⟨g8, o8, none⟩) 6 c8 | 12 => v = Value.int IntKind.i64 6 | 13 => v = Value.bool true | 14 => v = Value.bool true | 15 => v = Value.bool true | 16 => v = Value.pointer (some ⟨r1, 0, none⟩) | 17 => v = Value.int IntKind.i64 4 | 18 => v = Value.bool true | 19 => v = Value.bool true | 20 => v = Value.bool true | 21 => v = Value.pointer (some ⟨r2, 0, none⟩) | 22 => v = Value.int IntKind.i64 4 | 23 => v = Value.bool true | 24 => v = Value.bool true | 25 => v = Value.bool true | 26 => v = Value.pointer (some ⟨r3, 0, none⟩) | 27 => v = Value.int IntKind.i64 0 | 28 => v = Value.bool true | 29 => v = Value.bool true | 30 => v = Value.bool true | 31 => v = Value.agg #[Value.int IntKind.i64 1, Value.int IntKind.u32 2147483648] | 32 => v = Value.agg #[Value.int IntKind.i64 1, Value.int IntKind.u32 2147483648] | 33 => v = Value.bool true | 34 => v = Value.bool true | 35 => v = Value.bool true | 36 => v = Value.int IntKind.i64 0 | 37 => v = Value.bool true | 38 => v = Value.bool true | 39 => v = Value.bool true | 40 => v = Value.agg #[Value.int IntKind.i64 7, Value.int IntKind.u32 4294967295] | 41 => v = Value.agg #[Value.int IntKind.i64 7, Value.int IntKind.u32 4294967295] | 42 => v = Value.bool true | 43 => v = Value.bool true | 44 => v = Value.bool true | 45 => v = Value.agg #[Value.int IntKind.i64 0, Value.int IntKind.u32 0] | 46 => v = Value.agg #[Value.int IntKind.i64 0, Value.int IntKind.u32 0] | 47 => v = Value.bool true | 48 => v = Value.bool true | 49 => v = Value.bool true | 50 => v = Value.agg #[Value.int IntKind.i64 0, Value.int IntKind.u32 0] | 51 => v = Value.agg #[Value.int IntKind.i64 0, Value.int IntKind.u32 0] | 52 => v = Value.bool true | 53 => v = Value.bool true | 54 => v = Value.bool true | _ => True) (fun _ W => KB w n1 r1 n2 r2 n3 r3 gw gf gn gz W) (by kernel_rfl) (by kernel_rfl) (fun j v W W' hE h => by
            match j with
            | 0 => exact h
            | 1 => exact h
            | 2 => exact h
            | 3 => exact h
            | 4 => exact h
            | 5 => exact h
            | 6 => exact h
            | 7 => exact h
            | 8 => exact h
            | 9 => exact h
            | 10 => exact h
            | 11 => exact h
            | 12 => exact h
            | 13 => exact h
            | 14 => exact h
            | 15 => exact h
            | 16 => exact h
            | 17 => exact h
            | 18 => exact h
            | 19 => exact h
            | 20 => exact h
            | 21 => exact h
            | 22 => exact h
            | 23 => exact h
            | 24 => exact h
            | 25 => exact h
            | 26 => exact h
            | 27 => exact h
            | 28 => exact h
            | 29 => exact h
            | 30 => exact h
            | 31 => exact h
            | 32 => exact h
            | 33 => exact h
            | 34 => exact h
            | 35 => exact h
            | 36 => exact h
            | 37 => exact h
            | 38 => exact h
            | 39 => exact h
            | 40 => exact h
            | 41 => exact h
            | 42 => exact h
            | 43 => exact h
            | 44 => exact h
            | 45 => exact h
            | 46 => exact h
            | 47 => exact h
            | 48 => exact h
            | 49 => exact h
            | 50 => exact h
            | 51 => exact h
            | 52 => exact h
            | 53 => exact h
            | 54 => exact h
            | _ + 55 => trivial) (A22.drew) ?_ ?_
        · simp only [List.take_succ_cons, List.take_zero]
          refine Each.start (fun A hA => ?_)
          have PUTS : ∀ v0 v1 v2 v3 v4 v5 v6 v7 v8 v9 v10 v11 v12 v13 v14 v15 v16 v17 v18 v19 v20 v21 v22 v23 v24 v25 v26 v27 v28 v29 v30 v31 v32 v33 v34 v35 v36 v37 v38 v39 v40 v41 v42 v43 v44 v45 v46 v47 v48 v49 v50 v51 v52 v53 v54 : Value, A [v0, v1, v2, v3, v4, v5, v6, v7, v8, v9, v10, v11, v12, v13, v14, v15, v16, v17, v18, v19, v20, v21, v22, v23, v24, v25, v26, v27, v28, v29, v30, v31, v32, v33, v34, v35, v36, v37, v38, v39, v40, v41, v42, v43, v44, v45, v46, v47, v48, v49, v50, v51, v52, v53, v54] = A [v0, v1, v2, v3, v4, v5, v6, v7, v8, v9, v10, v11, v12, v13, v14, v15, v16, v17, v18, v19, v20, v21, v22, v23, v24, v25, v26, v27, v28, v29, v30, v31, v32, v33, v34, v35, v36, v37, v38, v39, v40, v41, v42, v43, v44, v45, v46, v47, v48, v49, v50, v51, v52, v53, v54] := fun v0 v1 v2 v3 v4 v5 v6 v7 v8 v9 v10 v11 v12 v13 v14 v15 v16 v17 v18 v19 v20 v21 v22 v23 v24 v25 v26 v27 v28 v29 v30 v31 v32 v33 v34 v35 v36 v37 v38 v39 v40 v41 v42 v43 v44 v45 v46 v47 v48 v49 v50 v51 v52 v53 v54 => rfl
          conv at PUTS => intro v0 v1 v2 v3 v4 v5 v6 v7 v8 v9 v10 v11 v12 v13 v14 v15 v16 v17 v18 v19 v20 v21 v22 v23 v24 v25 v26 v27 v28 v29 v30 v31 v32 v33 v34 v35 v36 v37 v38 v39 v40 v41 v42 v43 v44 v45 v46 v47 v48 v49 v50 v51 v52 v53 v54; rhs; rw [hA]; simp only [puts, Act.put, List.setIfInBounds_toArray, List.set_cons_zero, List.set_cons_succ]
          refine Each.consA A hA (fun vs W hl => ?_) ?_
          · apply with55 hl
            clear hl vs
            intro v0 v1 v2 v3 v4 v5 v6 v7 v8 v9 v10 v11 v12 v13 v14 v15 v16 v17 v18 v19 v20 v21 v22 v23 v24 v25 v26 v27 v28 v29 v30 v31 v32 v33 v34 v35 v36 v37 v38 v39 v40 v41 v42 v43 v44 v45 v46 v47 v48 v49 v50 v51 v52 v53 v54 hg hd K hK
            clear hd
            rw [if_pos (by rw [PUTS]; kernel_rfl)]
            simp only [PUTS, Act.put, List.setIfInBounds_toArray, List.set_cons_zero, List.set_cons_succ] at hK ⊢
            go_simp
            exact hK _ _ (Below.refl _ _) rfl hg
          refine Each.consA A hA (fun vs W hl => ?_) ?_
          · apply with55 hl
            clear hl vs
            intro v0 v1 v2 v3 v4 v5 v6 v7 v8 v9 v10 v11 v12 v13 v14 v15 v16 v17 v18 v19 v20 v21 v22 v23 v24 v25 v26 v27 v28 v29 v30 v31 v32 v33 v34 v35 v36 v37 v38 v39 v40 v41 v42 v43 v44 v45 v46 v47 v48 v49 v50 v51 v52 v53 v54 hg hd K hK
            have d0 : v0 = Value.bool true := hd 0 v0 (by kernel_rfl) rfl
            subst d0
            clear hd
            rw [if_pos (by rw [PUTS]; kernel_rfl)]
            simp only [PUTS, Act.put, List.setIfInBounds_toArray, List.set_cons_zero, List.set_cons_succ] at hK ⊢
            go_simp
            refine (WK.out _).mono ?_
            rintro e w' ⟨rfl, hk⟩
            exact hK _ _ hk rfl (hg.call hk)
          refine Each.consA A hA (fun vs W hl => ?_) ?_
          · apply with55 hl
            clear hl vs
            intro v0 v1 v2 v3 v4 v5 v6 v7 v8 v9 v10 v11 v12 v13 v14 v15 v16 v17 v18 v19 v20 v21 v22 v23 v24 v25 v26 v27 v28 v29 v30 v31 v32 v33 v34 v35 v36 v37 v38 v39 v40 v41 v42 v43 v44 v45 v46 v47 v48 v49 v50 v51 v52 v53 v54 hg hd K hK
            have d0 : v0 = Value.bool true := hd 0 v0 (by kernel_rfl) rfl
            subst d0
            have d1 : v1 = Value.bool true := hd 1 v1 (by kernel_rfl) rfl
            subst d1
            clear hd
            rw [if_pos (by rw [PUTS]; kernel_rfl)]
            simp only [PUTS, Act.put, List.setIfInBounds_toArray, List.set_cons_zero, List.set_cons_succ] at hK ⊢
            go_simp
            exact hK _ _ (Below.refl _ _) rfl hg
          refine Each.consA A hA (fun vs W hl => ?_) ?_
          · apply with55 hl
            clear hl vs
            intro v0 v1 v2 v3 v4 v5 v6 v7 v8 v9 v10 v11 v12 v13 v14 v15 v16 v17 v18 v19 v20 v21 v22 v23 v24 v25 v26 v27 v28 v29 v30 v31 v32 v33 v34 v35 v36 v37 v38 v39 v40 v41 v42 v43 v44 v45 v46 v47 v48 v49 v50 v51 v52 v53 v54 hg hd K hK
            have d2 : v2 = Value.bool true := hd 2 v2 (by kernel_rfl) rfl
            subst d2
            clear hd
            rw [if_pos (by rw [PUTS]; kernel_rfl)]
            simp only [PUTS, Act.put, List.setIfInBounds_toArray, List.set_cons_zero, List.set_cons_succ] at hK ⊢
            go_simp
            exact hK _ _ (Below.refl _ _) rfl hg
          refine Each.consA A hA (fun vs W hl => ?_) ?_
          · apply with55 hl
            clear hl vs
            intro v0 v1 v2 v3 v4 v5 v6 v7 v8 v9 v10 v11 v12 v13 v14 v15 v16 v17 v18 v19 v20 v21 v22 v23 v24 v25 v26 v27 v28 v29 v30 v31 v32 v33 v34 v35 v36 v37 v38 v39 v40 v41 v42 v43 v44 v45 v46 v47 v48 v49 v50 v51 v52 v53 v54 hg hd K hK
            have d3 : v3 = Value.bool true := hd 3 v3 (by kernel_rfl) rfl
            subst d3
            clear hd
            rw [if_pos (by rw [PUTS]; kernel_rfl)]
            simp only [PUTS, Act.put, List.setIfInBounds_toArray, List.set_cons_zero, List.set_cons_succ] at hK ⊢
            go_simp
            exact hK _ _ (Below.refl _ _) rfl hg
          refine Each.consA A hA (fun vs W hl => ?_) ?_
          · apply with55 hl
            clear hl vs
            intro v0 v1 v2 v3 v4 v5 v6 v7 v8 v9 v10 v11 v12 v13 v14 v15 v16 v17 v18 v19 v20 v21 v22 v23 v24 v25 v26 v27 v28 v29 v30 v31 v32 v33 v34 v35 v36 v37 v38 v39 v40 v41 v42 v43 v44 v45 v46 v47 v48 v49 v50 v51 v52 v53 v54 hg hd K hK
            have d3 : v3 = Value.bool true := hd 3 v3 (by kernel_rfl) rfl
            subst d3
            have d4 : v4 = Value.bool true := hd 4 v4 (by kernel_rfl) rfl
            subst d4
            clear hd
            rw [if_pos (by rw [PUTS]; kernel_rfl)]
            simp only [PUTS, Act.put, List.setIfInBounds_toArray, List.set_cons_zero, List.set_cons_succ] at hK ⊢
            go_simp
            exact hK _ _ (Below.refl _ _) rfl hg
          refine Each.consA A hA (fun vs W hl => ?_) ?_
          · apply with55 hl
            clear hl vs
            intro v0 v1 v2 v3 v4 v5 v6 v7 v8 v9 v10 v11 v12 v13 v14 v15 v16 v17 v18 v19 v20 v21 v22 v23 v24 v25 v26 v27 v28 v29 v30 v31 v32 v33 v34 v35 v36 v37 v38 v39 v40 v41 v42 v43 v44 v45 v46 v47 v48 v49 v50 v51 v52 v53 v54 hg hd K hK
            have d5 : v5 = Value.bool true := hd 5 v5 (by kernel_rfl) rfl
            subst d5
            clear hd
            rw [if_pos (by rw [PUTS]; kernel_rfl)]
            simp only [PUTS, Act.put, List.setIfInBounds_toArray, List.set_cons_zero, List.set_cons_succ] at hK ⊢
            go_simp
            exact hK _ _ (Below.refl _ _) rfl hg
          refine Each.consA A hA (fun vs W hl => ?_) ?_
          · apply with55 hl
            clear hl vs
            intro v0 v1 v2 v3 v4 v5 v6 v7 v8 v9 v10 v11 v12 v13 v14 v15 v16 v17 v18 v19 v20 v21 v22 v23 v24 v25 v26 v27 v28 v29 v30 v31 v32 v33 v34 v35 v36 v37 v38 v39 v40 v41 v42 v43 v44 v45 v46 v47 v48 v49 v50 v51 v52 v53 v54 hg hd K hK
            have d6 : v6 = Value.bool true := hd 6 v6 (by kernel_rfl) rfl
            subst d6
            clear hd
            rw [if_pos (by rw [PUTS]; kernel_rfl)]
            simp only [PUTS, Act.put, List.setIfInBounds_toArray, List.set_cons_zero, List.set_cons_succ] at hK ⊢
            go_simp
            exact hK _ _ (Below.refl _ _) rfl hg
          refine Each.consA A hA (fun vs W hl => ?_) ?_
          · apply with55 hl
            clear hl vs
            intro v0 v1 v2 v3 v4 v5 v6 v7 v8 v9 v10 v11 v12 v13 v14 v15 v16 v17 v18 v19 v20 v21 v22 v23 v24 v25 v26 v27 v28 v29 v30 v31 v32 v33 v34 v35 v36 v37 v38 v39 v40 v41 v42 v43 v44 v45 v46 v47 v48 v49 v50 v51 v52 v53 v54 hg hd K hK
            have d6 : v6 = Value.bool true := hd 6 v6 (by kernel_rfl) rfl
            subst d6
            have d7 : v7 = Value.int IntKind.i64 0 := hd 7 v7 (by kernel_rfl) rfl
            subst d7
            clear hd
            rw [if_pos (by rw [PUTS]; kernel_rfl)]
            simp only [PUTS, Act.put, List.setIfInBounds_toArray, List.set_cons_zero, List.set_cons_succ] at hK ⊢
            go_simp
            exact hK _ _ (Below.refl _ _) (by first | rfl | simp) hg
          refine Each.consA A hA (fun vs W hl => ?_) ?_
          · apply with55 hl
            clear hl vs
            intro v0 v1 v2 v3 v4 v5 v6 v7 v8 v9 v10 v11 v12 v13 v14 v15 v16 v17 v18 v19 v20 v21 v22 v23 v24 v25 v26 v27 v28 v29 v30 v31 v32 v33 v34 v35 v36 v37 v38 v39 v40 v41 v42 v43 v44 v45 v46 v47 v48 v49 v50 v51 v52 v53 v54 hg hd K hK
            have d6 : v6 = Value.bool true := hd 6 v6 (by kernel_rfl) rfl
            subst d6
            have d8 : v8 = Value.bool true := hd 8 v8 (by kernel_rfl) rfl
            subst d8
            clear hd
            rw [if_pos (by rw [PUTS]; kernel_rfl)]
            simp only [PUTS, Act.put, List.setIfInBounds_toArray, List.set_cons_zero, List.set_cons_succ] at hK ⊢
            go_simp
            exact hK _ _ (Below.refl _ _) rfl hg
          refine Each.consA A hA (fun vs W hl => ?_) ?_
          · apply with55 hl
            clear hl vs
            intro v0 v1 v2 v3 v4 v5 v6 v7 v8 v9 v10 v11 v12 v13 v14 v15 v16 v17 v18 v19 v20 v21 v22 v23 v24 v25 v26 v27 v28 v29 v30 v31 v32 v33 v34 v35 v36 v37 v38 v39 v40 v41 v42 v43 v44 v45 v46 v47 v48 v49 v50 v51 v52 v53 v54 hg hd K hK
            have d9 : v9 = Value.bool true := hd 9 v9 (by kernel_rfl) rfl
            subst d9
            clear hd
            rw [if_pos (by rw [PUTS]; kernel_rfl)]
            simp only [PUTS, Act.put, List.setIfInBounds_toArray, List.set_cons_zero, List.set_cons_succ] at hK ⊢
            go_simp
            exact hK _ _ (Below.refl _ _) rfl hg
          refine Each.consA A hA (fun vs W hl => ?_) ?_
          · apply with55 hl
            clear hl vs
            intro v0 v1 v2 v3 v4 v5 v6 v7 v8 v9 v10 v11 v12 v13 v14 v15 v16 v17 v18 v19 v20 v21 v22 v23 v24 v25 v26 v27 v28 v29 v30 v31 v32 v33 v34 v35 v36 v37 v38 v39 v40 v41 v42 v43 v44 v45 v46 v47 v48 v49 v50 v51 v52 v53 v54 hg hd K hK
            have d10 : v10 = Value.bool true := hd 10 v10 (by kernel_rfl) rfl
            subst d10
            clear hd
            rw [if_pos (by rw [PUTS]; kernel_rfl)]
            simp only [PUTS, Act.put, List.setIfInBounds_toArray, List.set_cons_zero, List.set_cons_succ] at hK ⊢
            go_simp
            exact hK _ _ (Below.refl _ _) rfl hg
          refine Each.consA A hA (fun vs W hl => ?_) ?_
          · apply with55 hl
            clear hl vs
            intro v0 v1 v2 v3 v4 v5 v6 v7 v8 v9 v10 v11 v12 v13 v14 v15 v16 v17 v18 v19 v20 v21 v22 v23 v24 v25 v26 v27 v28 v29 v30 v31 v32 v33 v34 v35 v36 v37 v38 v39 v40 v41 v42 v43 v44 v45 v46 v47 v48 v49 v50 v51 v52 v53 v54 hg hd K hK
            have d10 : v10 = Value.bool true := hd 10 v10 (by kernel_rfl) rfl
            subst d10
            have d11 : v11 = Value.slice (some ⟨g8, o8, none⟩) 6 c8 := hd 11 v11 (by kernel_rfl) rfl
            subst d11
            clear hd
            rw [if_pos (by rw [PUTS]; kernel_rfl)]
            simp only [PUTS, Act.put, List.setIfInBounds_toArray, List.set_cons_zero, List.set_cons_succ] at hK ⊢
            go_simp
            exact hK _ _ (Below.refl _ _) rfl hg
          refine Each.consA A hA (fun vs W hl => ?_) ?_
          · apply with55 hl
            clear hl vs
            intro v0 v1 v2 v3 v4 v5 v6 v7 v8 v9 v10 v11 v12 v13 v14 v15 v16 v17 v18 v19 v20 v21 v22 v23 v24 v25 v26 v27 v28 v29 v30 v31 v32 v33 v34 v35 v36 v37 v38 v39 v40 v41 v42 v43 v44 v45 v46 v47 v48 v49 v50 v51 v52 v53 v54 hg hd K hK
            have d10 : v10 = Value.bool true := hd 10 v10 (by kernel_rfl) rfl
            subst d10
            have d12 : v12 = Value.int IntKind.i64 6 := hd 12 v12 (by kernel_rfl) rfl
            subst d12
            clear hd
            rw [if_pos (by rw [PUTS]; kernel_rfl)]
            simp only [PUTS, Act.put, List.setIfInBounds_toArray, List.set_cons_zero, List.set_cons_succ] at hK ⊢
            go_simp
            exact hK _ _ (Below.refl _ _) (by first | rfl | simp) hg
          refine Each.consA A hA (fun vs W hl => ?_) ?_
          · apply with55 hl
            clear hl vs
            intro v0 v1 v2 v3 v4 v5 v6 v7 v8 v9 v10 v11 v12 v13 v14 v15 v16 v17 v18 v19 v20 v21 v22 v23 v24 v25 v26 v27 v28 v29 v30 v31 v32 v33 v34 v35 v36 v37 v38 v39 v40 v41 v42 v43 v44 v45 v46 v47 v48 v49 v50 v51 v52 v53 v54 hg hd K hK
            have d10 : v10 = Value.bool true := hd 10 v10 (by kernel_rfl) rfl
            subst d10
            have d13 : v13 = Value.bool true := hd 13 v13 (by kernel_rfl) rfl
            subst d13
            clear hd
            rw [if_pos (by rw [PUTS]; kernel_rfl)]
            simp only [PUTS, Act.put, List.setIfInBounds_toArray, List.set_cons_zero, List.set_cons_succ] at hK ⊢
            go_simp
            exact hK _ _ (Below.refl _ _) rfl hg
          refine Each.consA A hA (fun vs W hl => ?_) ?_
          · apply with55 hl
            clear hl vs
            intro v0 v1 v2 v3 v4 v5 v6 v7 v8 v9 v10 v11 v12 v13 v14 v15 v16 v17 v18 v19 v20 v21 v22 v23 v24 v25 v26 v27 v28 v29 v30 v31 v32 v33 v34 v35 v36 v37 v38 v39 v40 v41 v42 v43 v44 v45 v46 v47 v48 v49 v50 v51 v52 v53 v54 hg hd K hK
            have d14 : v14 = Value.bool true := hd 14 v14 (by kernel_rfl) rfl
            subst d14
            clear hd
            rw [if_pos (by rw [PUTS]; kernel_rfl)]
            simp only [PUTS, Act.put, List.setIfInBounds_toArray, List.set_cons_zero, List.set_cons_succ] at hK ⊢
            go_simp
            exact hK _ _ (Below.refl _ _) rfl hg
          refine Each.consA A hA (fun vs W hl => ?_) ?_
          · apply with55 hl
            clear hl vs
            intro v0 v1 v2 v3 v4 v5 v6 v7 v8 v9 v10 v11 v12 v13 v14 v15 v16 v17 v18 v19 v20 v21 v22 v23 v24 v25 v26 v27 v28 v29 v30 v31 v32 v33 v34 v35 v36 v37 v38 v39 v40 v41 v42 v43 v44 v45 v46 v47 v48 v49 v50 v51 v52 v53 v54 hg hd K hK
            have d15 : v15 = Value.bool true := hd 15 v15 (by kernel_rfl) rfl
            subst d15
            clear hd
            rw [if_pos (by rw [PUTS]; kernel_rfl)]
            simp only [PUTS, Act.put, List.setIfInBounds_toArray, List.set_cons_zero, List.set_cons_succ] at hK ⊢
            go_simp
            exact hK _ _ (Below.refl _ _) rfl hg
          refine Each.consA A hA (fun vs W hl => ?_) ?_
          · apply with55 hl
            clear hl vs
            intro v0 v1 v2 v3 v4 v5 v6 v7 v8 v9 v10 v11 v12 v13 v14 v15 v16 v17 v18 v19 v20 v21 v22 v23 v24 v25 v26 v27 v28 v29 v30 v31 v32 v33 v34 v35 v36 v37 v38 v39 v40 v41 v42 v43 v44 v45 v46 v47 v48 v49 v50 v51 v52 v53 v54 hg hd K hK
            have d15 : v15 = Value.bool true := hd 15 v15 (by kernel_rfl) rfl
            subst d15
            have d16 : v16 = Value.pointer (some ⟨r1, 0, none⟩) := hd 16 v16 (by kernel_rfl) rfl
            subst d16
            clear hd
            rw [if_pos (by rw [PUTS]; kernel_rfl)]
            simp only [PUTS, Act.put, List.setIfInBounds_toArray, List.set_cons_zero, List.set_cons_succ] at hK ⊢
            go_simp
            refine (Err_v hg.a.q1).mono ?_
            rintro e w' ⟨rfl, hk⟩
            exact hK _ _ hk rfl (hg.call hk)
          refine Each.consA A hA (fun vs W hl => ?_) ?_
          · apply with55 hl
            clear hl vs
            intro v0 v1 v2 v3 v4 v5 v6 v7 v8 v9 v10 v11 v12 v13 v14 v15 v16 v17 v18 v19 v20 v21 v22 v23 v24 v25 v26 v27 v28 v29 v30 v31 v32 v33 v34 v35 v36 v37 v38 v39 v40 v41 v42 v43 v44 v45 v46 v47 v48 v49 v50 v51 v52 v53 v54 hg hd K hK
            have d15 : v15 = Value.bool true := hd 15 v15 (by kernel_rfl) rfl
            subst d15
            have d17 : v17 = Value.int IntKind.i64 4 := hd 17 v17 (by kernel_rfl) rfl
            subst d17
            clear hd
            rw [if_pos (by rw [PUTS]; kernel_rfl)]
            simp only [PUTS, Act.put, List.setIfInBounds_toArray, List.set_cons_zero, List.set_cons_succ] at hK ⊢
            go_simp
            exact hK _ _ (Below.refl _ _) (by first | rfl | simp) hg
          refine Each.consA A hA (fun vs W hl => ?_) ?_
          · apply with55 hl
            clear hl vs
            intro v0 v1 v2 v3 v4 v5 v6 v7 v8 v9 v10 v11 v12 v13 v14 v15 v16 v17 v18 v19 v20 v21 v22 v23 v24 v25 v26 v27 v28 v29 v30 v31 v32 v33 v34 v35 v36 v37 v38 v39 v40 v41 v42 v43 v44 v45 v46 v47 v48 v49 v50 v51 v52 v53 v54 hg hd K hK
            have d15 : v15 = Value.bool true := hd 15 v15 (by kernel_rfl) rfl
            subst d15
            have d18 : v18 = Value.bool true := hd 18 v18 (by kernel_rfl) rfl
            subst d18
            clear hd
            rw [if_pos (by rw [PUTS]; kernel_rfl)]
            simp only [PUTS, Act.put, List.setIfInBounds_toArray, List.set_cons_zero, List.set_cons_succ] at hK ⊢
            go_simp
            exact hK _ _ (Below.refl _ _) rfl hg
          refine Each.consA A hA (fun vs W hl => ?_) ?_
          · apply with55 hl
            clear hl vs
            intro v0 v1 v2 v3 v4 v5 v6 v7 v8 v9 v10 v11 v12 v13 v14 v15 v16 v17 v18 v19 v20 v21 v22 v23 v24 v25 v26 v27 v28 v29 v30 v31 v32 v33 v34 v35 v36 v37 v38 v39 v40 v41 v42 v43 v44 v45 v46 v47 v48 v49 v50 v51 v52 v53 v54 hg hd K hK
            have d19 : v19 = Value.bool true := hd 19 v19 (by kernel_rfl) rfl
            subst d19
            clear hd
            rw [if_pos (by rw [PUTS]; kernel_rfl)]
            simp only [PUTS, Act.put, List.setIfInBounds_toArray, List.set_cons_zero, List.set_cons_succ] at hK ⊢
            go_simp
            exact hK _ _ (Below.refl _ _) rfl hg
          refine Each.consA A hA (fun vs W hl => ?_) ?_
          · apply with55 hl
            clear hl vs
            intro v0 v1 v2 v3 v4 v5 v6 v7 v8 v9 v10 v11 v12 v13 v14 v15 v16 v17 v18 v19 v20 v21 v22 v23 v24 v25 v26 v27 v28 v29 v30 v31 v32 v33 v34 v35 v36 v37 v38 v39 v40 v41 v42 v43 v44 v45 v46 v47 v48 v49 v50 v51 v52 v53 v54 hg hd K hK
            have d20 : v20 = Value.bool true := hd 20 v20 (by kernel_rfl) rfl
            subst d20
            clear hd
            rw [if_pos (by rw [PUTS]; kernel_rfl)]
            simp only [PUTS, Act.put, List.setIfInBounds_toArray, List.set_cons_zero, List.set_cons_succ] at hK ⊢
            go_simp
            exact hK _ _ (Below.refl _ _) rfl hg
          refine Each.consA A hA (fun vs W hl => ?_) ?_
          · apply with55 hl
            clear hl vs
            intro v0 v1 v2 v3 v4 v5 v6 v7 v8 v9 v10 v11 v12 v13 v14 v15 v16 v17 v18 v19 v20 v21 v22 v23 v24 v25 v26 v27 v28 v29 v30 v31 v32 v33 v34 v35 v36 v37 v38 v39 v40 v41 v42 v43 v44 v45 v46 v47 v48 v49 v50 v51 v52 v53 v54 hg hd K hK
            have d20 : v20 = Value.bool true := hd 20 v20 (by kernel_rfl) rfl
            subst d20
            have d21 : v21 = Value.pointer (some ⟨r2, 0, none⟩) := hd 21 v21 (by kernel_rfl) rfl
            subst d21
            clear hd
            rw [if_pos (by rw [PUTS]; kernel_rfl)]
            simp only [PUTS, Act.put, List.setIfInBounds_toArray, List.set_cons_zero, List.set_cons_succ] at hK ⊢
            go_simp
            refine (Err_v hg.a.q2).mono ?_
            rintro e w' ⟨rfl, hk⟩
            exact hK _ _ hk rfl (hg.call hk)
          refine Each.consA A hA (fun vs W hl => ?_) ?_
          · apply with55 hl
            clear hl vs
            intro v0 v1 v2 v3 v4 v5 v6 v7 v8 v9 v10 v11 v12 v13 v14 v15 v16 v17 v18 v19 v20 v21 v22 v23 v24 v25 v26 v27 v28 v29 v30 v31 v32 v33 v34 v35 v36 v37 v38 v39 v40 v41 v42 v43 v44 v45 v46 v47 v48 v49 v50 v51 v52 v53 v54 hg hd K hK
            have d20 : v20 = Value.bool true := hd 20 v20 (by kernel_rfl) rfl
            subst d20
            have d22 : v22 = Value.int IntKind.i64 4 := hd 22 v22 (by kernel_rfl) rfl
            subst d22
            clear hd
            rw [if_pos (by rw [PUTS]; kernel_rfl)]
            simp only [PUTS, Act.put, List.setIfInBounds_toArray, List.set_cons_zero, List.set_cons_succ] at hK ⊢
            go_simp
            exact hK _ _ (Below.refl _ _) (by first | rfl | simp) hg
          refine Each.consA A hA (fun vs W hl => ?_) ?_
          · apply with55 hl
            clear hl vs
            intro v0 v1 v2 v3 v4 v5 v6 v7 v8 v9 v10 v11 v12 v13 v14 v15 v16 v17 v18 v19 v20 v21 v22 v23 v24 v25 v26 v27 v28 v29 v30 v31 v32 v33 v34 v35 v36 v37 v38 v39 v40 v41 v42 v43 v44 v45 v46 v47 v48 v49 v50 v51 v52 v53 v54 hg hd K hK
            have d20 : v20 = Value.bool true := hd 20 v20 (by kernel_rfl) rfl
            subst d20
            have d23 : v23 = Value.bool true := hd 23 v23 (by kernel_rfl) rfl
            subst d23
            clear hd
            rw [if_pos (by rw [PUTS]; kernel_rfl)]
            simp only [PUTS, Act.put, List.setIfInBounds_toArray, List.set_cons_zero, List.set_cons_succ] at hK ⊢
            go_simp
            exact hK _ _ (Below.refl _ _) rfl hg
          refine Each.consA A hA (fun vs W hl => ?_) ?_
          · apply with55 hl
            clear hl vs
            intro v0 v1 v2 v3 v4 v5 v6 v7 v8 v9 v10 v11 v12 v13 v14 v15 v16 v17 v18 v19 v20 v21 v22 v23 v24 v25 v26 v27 v28 v29 v30 v31 v32 v33 v34 v35 v36 v37 v38 v39 v40 v41 v42 v43 v44 v45 v46 v47 v48 v49 v50 v51 v52 v53 v54 hg hd K hK
            have d24 : v24 = Value.bool true := hd 24 v24 (by kernel_rfl) rfl
            subst d24
            clear hd
            rw [if_pos (by rw [PUTS]; kernel_rfl)]
            simp only [PUTS, Act.put, List.setIfInBounds_toArray, List.set_cons_zero, List.set_cons_succ] at hK ⊢
            go_simp
            exact hK _ _ (Below.refl _ _) rfl hg
          refine Each.consA A hA (fun vs W hl => ?_) ?_
          · apply with55 hl
            clear hl vs
            intro v0 v1 v2 v3 v4 v5 v6 v7 v8 v9 v10 v11 v12 v13 v14 v15 v16 v17 v18 v19 v20 v21 v22 v23 v24 v25 v26 v27 v28 v29 v30 v31 v32 v33 v34 v35 v36 v37 v38 v39 v40 v41 v42 v43 v44 v45 v46 v47 v48 v49 v50 v51 v52 v53 v54 hg hd K hK
            have d25 : v25 = Value.bool true := hd 25 v25 (by kernel_rfl) rfl
            subst d25
            clear hd
            rw [if_pos (by rw [PUTS]; kernel_rfl)]
            simp only [PUTS, Act.put, List.setIfInBounds_toArray, List.set_cons_zero, List.set_cons_succ] at hK ⊢
            go_simp
            exact hK _ _ (Below.refl _ _) rfl hg
          refine Each.consA A hA (fun vs W hl => ?_) ?_
          · apply with55 hl
            clear hl vs
            intro v0 v1 v2 v3 v4 v5 v6 v7 v8 v9 v10 v11 v12 v13 v14 v15 v16 v17 v18 v19 v20 v21 v22 v23 v24 v25 v26 v27 v28 v29 v30 v31 v32 v33 v34 v35 v36 v37 v38 v39 v40 v41 v42 v43 v44 v45 v46 v47 v48 v49 v50 v51 v52 v53 v54 hg hd K hK
            have d25 : v25 = Value.bool true := hd 25 v25 (by kernel_rfl) rfl
            subst d25
            have d26 : v26 = Value.pointer (some ⟨r3, 0, none⟩) := hd 26 v26 (by kernel_rfl) rfl
            subst d26
            clear hd
            rw [if_pos (by rw [PUTS]; kernel_rfl)]
            simp only [PUTS, Act.put, List.setIfInBounds_toArray, List.set_cons_zero, List.set_cons_succ] at hK ⊢
            go_simp
            refine (Err_v hg.a.q3).mono ?_
            rintro e w' ⟨rfl, hk⟩
            exact hK _ _ hk rfl (hg.call hk)
          refine Each.consA A hA (fun vs W hl => ?_) ?_
          · apply with55 hl
            clear hl vs
            intro v0 v1 v2 v3 v4 v5 v6 v7 v8 v9 v10 v11 v12 v13 v14 v15 v16 v17 v18 v19 v20 v21 v22 v23 v24 v25 v26 v27 v28 v29 v30 v31 v32 v33 v34 v35 v36 v37 v38 v39 v40 v41 v42 v43 v44 v45 v46 v47 v48 v49 v50 v51 v52 v53 v54 hg hd K hK
            have d25 : v25 = Value.bool true := hd 25 v25 (by kernel_rfl) rfl
            subst d25
            have d27 : v27 = Value.int IntKind.i64 0 := hd 27 v27 (by kernel_rfl) rfl
            subst d27
            clear hd
            rw [if_pos (by rw [PUTS]; kernel_rfl)]
            simp only [PUTS, Act.put, List.setIfInBounds_toArray, List.set_cons_zero, List.set_cons_succ] at hK ⊢
            go_simp
            exact hK _ _ (Below.refl _ _) (by first | rfl | simp) hg
          refine Each.consA A hA (fun vs W hl => ?_) ?_
          · apply with55 hl
            clear hl vs
            intro v0 v1 v2 v3 v4 v5 v6 v7 v8 v9 v10 v11 v12 v13 v14 v15 v16 v17 v18 v19 v20 v21 v22 v23 v24 v25 v26 v27 v28 v29 v30 v31 v32 v33 v34 v35 v36 v37 v38 v39 v40 v41 v42 v43 v44 v45 v46 v47 v48 v49 v50 v51 v52 v53 v54 hg hd K hK
            have d25 : v25 = Value.bool true := hd 25 v25 (by kernel_rfl) rfl
            subst d25
            have d28 : v28 = Value.bool true := hd 28 v28 (by kernel_rfl) rfl
            subst d28
            clear hd
            rw [if_pos (by rw [PUTS]; kernel_rfl)]
            simp only [PUTS, Act.put, List.setIfInBounds_toArray, List.set_cons_zero, List.set_cons_succ] at hK ⊢
            go_simp
            exact hK _ _ (Below.refl _ _) rfl hg
          refine Each.consA A hA (fun vs W hl => ?_) ?_
          · apply with55 hl
            clear hl vs
            intro v0 v1 v2 v3 v4 v5 v6 v7 v8 v9 v10 v11 v12 v13 v14 v15 v16 v17 v18 v19 v20 v21 v22 v23 v24 v25 v26 v27 v28 v29 v30 v31 v32 v33 v34 v35 v36 v37 v38 v39 v40 v41 v42 v43 v44 v45 v46 v47 v48 v49 v50 v51 v52 v53 v54 hg hd K hK
            have d29 : v29 = Value.bool true := hd 29 v29 (by kernel_rfl) rfl
            subst d29
            clear hd
            rw [if_pos (by rw [PUTS]; kernel_rfl)]
            simp only [PUTS, Act.put, List.setIfInBounds_toArray, List.set_cons_zero, List.set_cons_succ] at hK ⊢
            go_simp
            exact hK _ _ (Below.refl _ _) rfl hg
          refine Each.consA A hA (fun vs W hl => ?_) ?_
          · apply with55 hl
            clear hl vs
            intro v0 v1 v2 v3 v4 v5 v6 v7 v8 v9 v10 v11 v12 v13 v14 v15 v16 v17 v18 v19 v20 v21 v22 v23 v24 v25 v26 v27 v28 v29 v30 v31 v32 v33 v34 v35 v36 v37 v38 v39 v40 v41 v42 v43 v44 v45 v46 v47 v48 v49 v50 v51 v52 v53 v54 hg hd K hK
            have d30 : v30 = Value.bool true := hd 30 v30 (by kernel_rfl) rfl
            subst d30
            clear hd
            rw [if_pos (by rw [PUTS]; kernel_rfl)]
            simp only [PUTS, Act.put, List.setIfInBounds_toArray, List.set_cons_zero, List.set_cons_succ] at hK ⊢
            have c0 := hg.a.wide.c0
            have c1 := hg.a.wide.c1
            go_simp
            exact hK _ _ (Below.refl _ _) rfl hg
          refine Each.consA A hA (fun vs W hl => ?_) ?_
          · apply with55 hl
            clear hl vs
            intro v0 v1 v2 v3 v4 v5 v6 v7 v8 v9 v10 v11 v12 v13 v14 v15 v16 v17 v18 v19 v20 v21 v22 v23 v24 v25 v26 v27 v28 v29 v30 v31 v32 v33 v34 v35 v36 v37 v38 v39 v40 v41 v42 v43 v44 v45 v46 v47 v48 v49 v50 v51 v52 v53 v54 hg hd K hK
            have d30 : v30 = Value.bool true := hd 30 v30 (by kernel_rfl) rfl
            subst d30
            clear hd
            rw [if_pos (by rw [PUTS]; kernel_rfl)]
            simp only [PUTS, Act.put, List.setIfInBounds_toArray, List.set_cons_zero, List.set_cons_succ] at hK ⊢
            go_simp
            refine (at_any _ _ _).mono ?_
            rintro e w' ⟨rfl, hk⟩
            exact hK _ _ hk rfl (hg.call hk)
          refine Each.consA A hA (fun vs W hl => ?_) ?_
          · apply with55 hl
            clear hl vs
            intro v0 v1 v2 v3 v4 v5 v6 v7 v8 v9 v10 v11 v12 v13 v14 v15 v16 v17 v18 v19 v20 v21 v22 v23 v24 v25 v26 v27 v28 v29 v30 v31 v32 v33 v34 v35 v36 v37 v38 v39 v40 v41 v42 v43 v44 v45 v46 v47 v48 v49 v50 v51 v52 v53 v54 hg hd K hK
            have d30 : v30 = Value.bool true := hd 30 v30 (by kernel_rfl) rfl
            subst d30
            have d31 : v31 = Value.agg #[Value.int IntKind.i64 1, Value.int IntKind.u32 2147483648] := hd 31 v31 (by kernel_rfl) rfl
            subst d31
            have d32 : v32 = Value.agg #[Value.int IntKind.i64 1, Value.int IntKind.u32 2147483648] := hd 32 v32 (by kernel_rfl) rfl
            subst d32
            clear hd
            rw [if_pos (by rw [PUTS]; kernel_rfl)]
            simp only [PUTS, Act.put, List.setIfInBounds_toArray, List.set_cons_zero, List.set_cons_succ] at hK ⊢
            have e24 := eq24r
            go_simp
            exact hK _ _ (Below.refl _ _) (by first | rfl | simp) hg
          refine Each.consA A hA (fun vs W hl => ?_) ?_
          · apply with55 hl
            clear hl vs
            intro v0 v1 v2 v3 v4 v5 v6 v7 v8 v9 v10 v11 v12 v13 v14 v15 v16 v17 v18 v19 v20 v21 v22 v23 v24 v25 v26 v27 v28 v29 v30 v31 v32 v33 v34 v35 v36 v37 v38 v39 v40 v41 v42 v43 v44 v45 v46 v47 v48 v49 v50 v51 v52 v53 v54 hg hd K hK
            have d30 : v30 = Value.bool true := hd 30 v30 (by kernel_rfl) rfl
            subst d30
            have d33 : v33 = Value.bool true := hd 33 v33 (by kernel_rfl) rfl
            subst d33
            clear hd
            rw [if_pos (by rw [PUTS]; kernel_rfl)]
            simp only [PUTS, Act.put, List.setIfInBounds_toArray, List.set_cons_zero, List.set_cons_succ] at hK ⊢
            go_simp
            exact hK _ _ (Below.refl _ _) rfl hg
          refine Each.consA A hA (fun vs W hl => ?_) ?_
          · apply with55 hl
            clear hl vs
            intro v0 v1 v2 v3 v4 v5 v6 v7 v8 v9 v10 v11 v12 v13 v14 v15 v16 v17 v18 v19 v20 v21 v22 v23 v24 v25 v26 v27 v28 v29 v30 v31 v32 v33 v34 v35 v36 v37 v38 v39 v40 v41 v42 v43 v44 v45 v46 v47 v48 v49 v50 v51 v52 v53 v54 hg hd K hK
            have d34 : v34 = Value.bool true := hd 34 v34 (by kernel_rfl) rfl
            subst d34
            clear hd
            rw [if_pos (by rw [PUTS]; kernel_rfl)]
            simp only [PUTS, Act.put, List.setIfInBounds_toArray, List.set_cons_zero, List.set_cons_succ] at hK ⊢
            go_simp
            exact hK _ _ (Below.refl _ _) rfl hg
          refine Each.consA A hA (fun vs W hl => ?_) ?_
          · apply with55 hl
            clear hl vs
            intro v0 v1 v2 v3 v4 v5 v6 v7 v8 v9 v10 v11 v12 v13 v14 v15 v16 v17 v18 v19 v20 v21 v22 v23 v24 v25 v26 v27 v28 v29 v30 v31 v32 v33 v34 v35 v36 v37 v38 v39 v40 v41 v42 v43 v44 v45 v46 v47 v48 v49 v50 v51 v52 v53 v54 hg hd K hK
            have d35 : v35 = Value.bool true := hd 35 v35 (by kernel_rfl) rfl
            subst d35
            clear hd
            rw [if_pos (by rw [PUTS]; kernel_rfl)]
            simp only [PUTS, Act.put, List.setIfInBounds_toArray, List.set_cons_zero, List.set_cons_succ] at hK ⊢
            go_simp
            exact hK _ _ (Below.refl _ _) rfl hg
          refine Each.consA A hA (fun vs W hl => ?_) ?_
          · apply with55 hl
            clear hl vs
            intro v0 v1 v2 v3 v4 v5 v6 v7 v8 v9 v10 v11 v12 v13 v14 v15 v16 v17 v18 v19 v20 v21 v22 v23 v24 v25 v26 v27 v28 v29 v30 v31 v32 v33 v34 v35 v36 v37 v38 v39 v40 v41 v42 v43 v44 v45 v46 v47 v48 v49 v50 v51 v52 v53 v54 hg hd K hK
            have d35 : v35 = Value.bool true := hd 35 v35 (by kernel_rfl) rfl
            subst d35
            have d36 : v36 = Value.int IntKind.i64 0 := hd 36 v36 (by kernel_rfl) rfl
            subst d36
            clear hd
            rw [if_pos (by rw [PUTS]; kernel_rfl)]
            simp only [PUTS, Act.put, List.setIfInBounds_toArray, List.set_cons_zero, List.set_cons_succ] at hK ⊢
            go_simp
            exact hK _ _ (Below.refl _ _) (by first | rfl | simp) hg
          refine Each.consA A hA (fun vs W hl => ?_) ?_
          · apply with55 hl
            clear hl vs
            intro v0 v1 v2 v3 v4 v5 v6 v7 v8 v9 v10 v11 v12 v13 v14 v15 v16 v17 v18 v19 v20 v21 v22 v23 v24 v25 v26 v27 v28 v29 v30 v31 v32 v33 v34 v35 v36 v37 v38 v39 v40 v41 v42 v43 v44 v45 v46 v47 v48 v49 v50 v51 v52 v53 v54 hg hd K hK
            have d35 : v35 = Value.bool true := hd 35 v35 (by kernel_rfl) rfl
            subst d35
            have d37 : v37 = Value.bool true := hd 37 v37 (by kernel_rfl) rfl
            subst d37
            clear hd
            rw [if_pos (by rw [PUTS]; kernel_rfl)]
            simp only [PUTS, Act.put, List.setIfInBounds_toArray, List.set_cons_zero, List.set_cons_succ] at hK ⊢
            go_simp
            exact hK _ _ (Below.refl _ _) rfl hg
          refine Each.consA A hA (fun vs W hl => ?_) ?_
          · apply with55 hl
            clear hl vs
            intro v0 v1 v2 v3 v4 v5 v6 v7 v8 v9 v10 v11 v12 v13 v14 v15 v16 v17 v18 v19 v20 v21 v22 v23 v24 v25 v26 v27 v28 v29 v30 v31 v32 v33 v34 v35 v36 v37 v38 v39 v40 v41 v42 v43 v44 v45 v46 v47 v48 v49 v50 v51 v52 v53 v54 hg hd K hK
            have d38 : v38 = Value.bool true := hd 38 v38 (by kernel_rfl) rfl
            subst d38
            clear hd
            rw [if_pos (by rw [PUTS]; kernel_rfl)]
            simp only [PUTS, Act.put, List.setIfInBounds_toArray, List.set_cons_zero, List.set_cons_succ] at hK ⊢
            go_simp
            exact hK _ _ (Below.refl _ _) rfl hg
          refine Each.consA A hA (fun vs W hl => ?_) ?_
          · apply with55 hl
            clear hl vs
            intro v0 v1 v2 v3 v4 v5 v6 v7 v8 v9 v10 v11 v12 v13 v14 v15 v16 v17 v18 v19 v20 v21 v22 v23 v24 v25 v26 v27 v28 v29 v30 v31 v32 v33 v34 v35 v36 v37 v38 v39 v40 v41 v42 v43 v44 v45 v46 v47 v48 v49 v50 v51 v52 v53 v54 hg hd K hK
            have d39 : v39 = Value.bool true := hd 39 v39 (by kernel_rfl) rfl
            subst d39
            clear hd
            rw [if_pos (by rw [PUTS]; kernel_rfl)]
            simp only [PUTS, Act.put, List.setIfInBounds_toArray, List.set_cons_zero, List.set_cons_succ] at hK ⊢
            have c0 := hg.full.c0
            have c1 := hg.full.c1
            go_simp
            exact hK _ _ (Below.refl _ _) rfl hg
          refine Each.consA A hA (fun vs W hl => ?_) ?_
          · apply with55 hl
            clear hl vs
            intro v0 v1 v2 v3 v4 v5 v6 v7 v8 v9 v10 v11 v12 v13 v14 v15 v16 v17 v18 v19 v20 v21 v22 v23 v24 v25 v26 v27 v28 v29 v30 v31 v32 v33 v34 v35 v36 v37 v38 v39 v40 v41 v42 v43 v44 v45 v46 v47 v48 v49 v50 v51 v52 v53 v54 hg hd K hK
            have d39 : v39 = Value.bool true := hd 39 v39 (by kernel_rfl) rfl
            subst d39
            clear hd
            rw [if_pos (by rw [PUTS]; kernel_rfl)]
            simp only [PUTS, Act.put, List.setIfInBounds_toArray, List.set_cons_zero, List.set_cons_succ] at hK ⊢
            go_simp
            refine (at_any _ _ _).mono ?_
            rintro e w' ⟨rfl, hk⟩
            exact hK _ _ hk rfl (hg.call hk)
          refine Each.consA A hA (fun vs W hl => ?_) ?_
          · apply with55 hl
            clear hl vs
            intro v0 v1 v2 v3 v4 v5 v6 v7 v8 v9 v10 v11 v12 v13 v14 v15 v16 v17 v18 v19 v20 v21 v22 v23 v24 v25 v26 v27 v28 v29 v30 v31 v32 v33 v34 v35 v36 v37 v38 v39 v40 v41 v42 v43 v44 v45 v46 v47 v48 v49 v50 v51 v52 v53 v54 hg hd K hK
            have d39 : v39 = Value.bool true := hd 39 v39 (by kernel_rfl) rfl
            subst d39
            have d40 : v40 = Value.agg #[Value.int IntKind.i64 7, Value.int IntKind.u32 4294967295] := hd 40 v40 (by kernel_rfl) rfl
            subst d40
            have d41 : v41 = Value.agg #[Value.int IntKind.i64 7, Value.int IntKind.u32 4294967295] := hd 41 v41 (by kernel_rfl) rfl
            subst d41
            clear hd
            rw [if_pos (by rw [PUTS]; kernel_rfl)]
            simp only [PUTS, Act.put, List.setIfInBounds_toArray, List.set_cons_zero, List.set_cons_succ] at hK ⊢
            have e24 := eq24r
            go_simp
            exact hK _ _ (Below.refl _ _) (by first | rfl | simp) hg
          refine Each.consA A hA (fun vs W hl => ?_) ?_
          · apply with55 hl
            clear hl vs
            intro v0 v1 v2 v3 v4 v5 v6 v7 v8 v9 v10 v11 v12 v13 v14 v15 v16 v17 v18 v19 v20 v21 v22 v23 v24 v25 v26 v27 v28 v29 v30 v31 v32 v33 v34 v35 v36 v37 v38 v39 v40 v41 v42 v43 v44 v45 v46 v47 v48 v49 v50 v51 v52 v53 v54 hg hd K hK
            have d39 : v39 = Value.bool true := hd 39 v39 (by kernel_rfl) rfl
            subst d39
            have d42 : v42 = Value.bool true := hd 42 v42 (by kernel_rfl) rfl
            subst d42
            clear hd
            rw [if_pos (by rw [PUTS]; kernel_rfl)]
            simp only [PUTS, Act.put, List.setIfInBounds_toArray, List.set_cons_zero, List.set_cons_succ] at hK ⊢
            go_simp
            exact hK _ _ (Below.refl _ _) rfl hg
          refine Each.consA A hA (fun vs W hl => ?_) ?_
          · apply with55 hl
            clear hl vs
            intro v0 v1 v2 v3 v4 v5 v6 v7 v8 v9 v10 v11 v12 v13 v14 v15 v16 v17 v18 v19 v20 v21 v22 v23 v24 v25 v26 v27 v28 v29 v30 v31 v32 v33 v34 v35 v36 v37 v38 v39 v40 v41 v42 v43 v44 v45 v46 v47 v48 v49 v50 v51 v52 v53 v54 hg hd K hK
            have d43 : v43 = Value.bool true := hd 43 v43 (by kernel_rfl) rfl
            subst d43
            clear hd
            rw [if_pos (by rw [PUTS]; kernel_rfl)]
            simp only [PUTS, Act.put, List.setIfInBounds_toArray, List.set_cons_zero, List.set_cons_succ] at hK ⊢
            go_simp
            exact hK _ _ (Below.refl _ _) rfl hg
          refine Each.consA A hA (fun vs W hl => ?_) ?_
          · apply with55 hl
            clear hl vs
            intro v0 v1 v2 v3 v4 v5 v6 v7 v8 v9 v10 v11 v12 v13 v14 v15 v16 v17 v18 v19 v20 v21 v22 v23 v24 v25 v26 v27 v28 v29 v30 v31 v32 v33 v34 v35 v36 v37 v38 v39 v40 v41 v42 v43 v44 v45 v46 v47 v48 v49 v50 v51 v52 v53 v54 hg hd K hK
            have d44 : v44 = Value.bool true := hd 44 v44 (by kernel_rfl) rfl
            subst d44
            clear hd
            rw [if_pos (by rw [PUTS]; kernel_rfl)]
            simp only [PUTS, Act.put, List.setIfInBounds_toArray, List.set_cons_zero, List.set_cons_succ] at hK ⊢
            have c0 := hg.none.c0
            have c1 := hg.none.c1
            go_simp
            exact hK _ _ (Below.refl _ _) rfl hg
          refine Each.consA A hA (fun vs W hl => ?_) ?_
          · apply with55 hl
            clear hl vs
            intro v0 v1 v2 v3 v4 v5 v6 v7 v8 v9 v10 v11 v12 v13 v14 v15 v16 v17 v18 v19 v20 v21 v22 v23 v24 v25 v26 v27 v28 v29 v30 v31 v32 v33 v34 v35 v36 v37 v38 v39 v40 v41 v42 v43 v44 v45 v46 v47 v48 v49 v50 v51 v52 v53 v54 hg hd K hK
            have d44 : v44 = Value.bool true := hd 44 v44 (by kernel_rfl) rfl
            subst d44
            clear hd
            rw [if_pos (by rw [PUTS]; kernel_rfl)]
            simp only [PUTS, Act.put, List.setIfInBounds_toArray, List.set_cons_zero, List.set_cons_succ] at hK ⊢
            go_simp
            refine (at_any _ _ _).mono ?_
            rintro e w' ⟨rfl, hk⟩
            exact hK _ _ hk rfl (hg.call hk)
          refine Each.consA A hA (fun vs W hl => ?_) ?_
          · apply with55 hl
            clear hl vs
            intro v0 v1 v2 v3 v4 v5 v6 v7 v8 v9 v10 v11 v12 v13 v14 v15 v16 v17 v18 v19 v20 v21 v22 v23 v24 v25 v26 v27 v28 v29 v30 v31 v32 v33 v34 v35 v36 v37 v38 v39 v40 v41 v42 v43 v44 v45 v46 v47 v48 v49 v50 v51 v52 v53 v54 hg hd K hK
            have d44 : v44 = Value.bool true := hd 44 v44 (by kernel_rfl) rfl
            subst d44
            have d45 : v45 = Value.agg #[Value.int IntKind.i64 0, Value.int IntKind.u32 0] := hd 45 v45 (by kernel_rfl) rfl
            subst d45
            have d46 : v46 = Value.agg #[Value.int IntKind.i64 0, Value.int IntKind.u32 0] := hd 46 v46 (by kernel_rfl) rfl
            subst d46
            clear hd
            rw [if_pos (by rw [PUTS]; kernel_rfl)]
            simp only [PUTS, Act.put, List.setIfInBounds_toArray, List.set_cons_zero, List.set_cons_succ] at hK ⊢
            have e24 := eq24r
            go_simp
            exact hK _ _ (Below.refl _ _) (by first | rfl | simp) hg
          refine Each.consA A hA (fun vs W hl => ?_) ?_
          · apply with55 hl
            clear hl vs
            intro v0 v1 v2 v3 v4 v5 v6 v7 v8 v9 v10 v11 v12 v13 v14 v15 v16 v17 v18 v19 v20 v21 v22 v23 v24 v25 v26 v27 v28 v29 v30 v31 v32 v33 v34 v35 v36 v37 v38 v39 v40 v41 v42 v43 v44 v45 v46 v47 v48 v49 v50 v51 v52 v53 v54 hg hd K hK
            have d44 : v44 = Value.bool true := hd 44 v44 (by kernel_rfl) rfl
            subst d44
            have d47 : v47 = Value.bool true := hd 47 v47 (by kernel_rfl) rfl
            subst d47
            clear hd
            rw [if_pos (by rw [PUTS]; kernel_rfl)]
            simp only [PUTS, Act.put, List.setIfInBounds_toArray, List.set_cons_zero, List.set_cons_succ] at hK ⊢
            go_simp
            exact hK _ _ (Below.refl _ _) rfl hg
          refine Each.consA A hA (fun vs W hl => ?_) ?_
          · apply with55 hl
            clear hl vs
            intro v0 v1 v2 v3 v4 v5 v6 v7 v8 v9 v10 v11 v12 v13 v14 v15 v16 v17 v18 v19 v20 v21 v22 v23 v24 v25 v26 v27 v28 v29 v30 v31 v32 v33 v34 v35 v36 v37 v38 v39 v40 v41 v42 v43 v44 v45 v46 v47 v48 v49 v50 v51 v52 v53 v54 hg hd K hK
            have d48 : v48 = Value.bool true := hd 48 v48 (by kernel_rfl) rfl
            subst d48
            clear hd
            rw [if_pos (by rw [PUTS]; kernel_rfl)]
            simp only [PUTS, Act.put, List.setIfInBounds_toArray, List.set_cons_zero, List.set_cons_succ] at hK ⊢
            go_simp
            exact hK _ _ (Below.refl _ _) rfl hg
          refine Each.consA A hA (fun vs W hl => ?_) ?_
          · apply with55 hl
            clear hl vs
            intro v0 v1 v2 v3 v4 v5 v6 v7 v8 v9 v10 v11 v12 v13 v14 v15 v16 v17 v18 v19 v20 v21 v22 v23 v24 v25 v26 v27 v28 v29 v30 v31 v32 v33 v34 v35 v36 v37 v38 v39 v40 v41 v42 v43 v44 v45 v46 v47 v48 v49 v50 v51 v52 v53 v54 hg hd K hK
            have d49 : v49 = Value.bool true := hd 49 v49 (by kernel_rfl) rfl
            subst d49
            clear hd
            rw [if_pos (by rw [PUTS]; kernel_rfl)]
            simp only [PUTS, Act.put, List.setIfInBounds_toArray, List.set_cons_zero, List.set_cons_succ] at hK ⊢
            have c0 := hg.zero.c0
            have c1 := hg.zero.c1
            go_simp
            exact hK _ _ (Below.refl _ _) rfl hg
          refine Each.consA A hA (fun vs W hl => ?_) ?_
          · apply with55 hl
            clear hl vs
            intro v0 v1 v2 v3 v4 v5 v6 v7 v8 v9 v10 v11 v12 v13 v14 v15 v16 v17 v18 v19 v20 v21 v22 v23 v24 v25 v26 v27 v28 v29 v30 v31 v32 v33 v34 v35 v36 v37 v38 v39 v40 v41 v42 v43 v44 v45 v46 v47 v48 v49 v50 v51 v52 v53 v54 hg hd K hK
            have d49 : v49 = Value.bool true := hd 49 v49 (by kernel_rfl) rfl
            subst d49
            clear hd
            rw [if_pos (by rw [PUTS]; kernel_rfl)]
            simp only [PUTS, Act.put, List.setIfInBounds_toArray, List.set_cons_zero, List.set_cons_succ] at hK ⊢
            go_simp
            refine (at_any _ _ _).mono ?_
            rintro e w' ⟨rfl, hk⟩
            exact hK _ _ hk rfl (hg.call hk)
          refine Each.consA A hA (fun vs W hl => ?_) ?_
          · apply with55 hl
            clear hl vs
            intro v0 v1 v2 v3 v4 v5 v6 v7 v8 v9 v10 v11 v12 v13 v14 v15 v16 v17 v18 v19 v20 v21 v22 v23 v24 v25 v26 v27 v28 v29 v30 v31 v32 v33 v34 v35 v36 v37 v38 v39 v40 v41 v42 v43 v44 v45 v46 v47 v48 v49 v50 v51 v52 v53 v54 hg hd K hK
            have d49 : v49 = Value.bool true := hd 49 v49 (by kernel_rfl) rfl
            subst d49
            have d50 : v50 = Value.agg #[Value.int IntKind.i64 0, Value.int IntKind.u32 0] := hd 50 v50 (by kernel_rfl) rfl
            subst d50
            have d51 : v51 = Value.agg #[Value.int IntKind.i64 0, Value.int IntKind.u32 0] := hd 51 v51 (by kernel_rfl) rfl
            subst d51
            clear hd
            rw [if_pos (by rw [PUTS]; kernel_rfl)]
            simp only [PUTS, Act.put, List.setIfInBounds_toArray, List.set_cons_zero, List.set_cons_succ] at hK ⊢
            have e24 := eq24r
            go_simp
            exact hK _ _ (Below.refl _ _) (by first | rfl | simp) hg
          refine Each.consA A hA (fun vs W hl => ?_) ?_
          · apply with55 hl
            clear hl vs
            intro v0 v1 v2 v3 v4 v5 v6 v7 v8 v9 v10 v11 v12 v13 v14 v15 v16 v17 v18 v19 v20 v21 v22 v23 v24 v25 v26 v27 v28 v29 v30 v31 v32 v33 v34 v35 v36 v37 v38 v39 v40 v41 v42 v43 v44 v45 v46 v47 v48 v49 v50 v51 v52 v53 v54 hg hd K hK
            have d49 : v49 = Value.bool true := hd 49 v49 (by kernel_rfl) rfl
            subst d49
            have d52 : v52 = Value.bool true := hd 52 v52 (by kernel_rfl) rfl
            subst d52
            clear hd
            rw [if_pos (by rw [PUTS]; kernel_rfl)]
            simp only [PUTS, Act.put, List.setIfInBounds_toArray, List.set_cons_zero, List.set_cons_succ] at hK ⊢
            go_simp
            exact hK _ _ (Below.refl _ _) rfl hg
          refine Each.consA A hA (fun vs W hl => ?_) ?_
          · apply with55 hl
            clear hl vs
            intro v0 v1 v2 v3 v4 v5 v6 v7 v8 v9 v10 v11 v12 v13 v14 v15 v16 v17 v18 v19 v20 v21 v22 v23 v24 v25 v26 v27 v28 v29 v30 v31 v32 v33 v34 v35 v36 v37 v38 v39 v40 v41 v42 v43 v44 v45 v46 v47 v48 v49 v50 v51 v52 v53 v54 hg hd K hK
            have d53 : v53 = Value.bool true := hd 53 v53 (by kernel_rfl) rfl
            subst d53
            clear hd
            rw [if_pos (by rw [PUTS]; kernel_rfl)]
            simp only [PUTS, Act.put, List.setIfInBounds_toArray, List.set_cons_zero] at hK ⊢
            go_simp
            exact hK _ _ (Below.refl _ _) rfl hg
          exact Each.nil
        · intro vs W hl
          apply with55 hl
          clear hl vs
          intro v0 v1 v2 v3 v4 v5 v6 v7 v8 v9 v10 v11 v12 v13 v14 v15 v16 v17 v18 v19 v20 v21 v22 v23 v24 v25 v26 v27 v28 v29 v30 v31 v32 v33 v34 v35 v36 v37 v38 v39 v40 v41 v42 v43 v44 v45 v46 v47 v48 v49 v50 v51 v52 v53 v54 hg hall
          have d0 : v0 = Value.bool true := hall 0 v0 rfl
          subst d0
          have d1 : v1 = Value.bool true := hall 1 v1 rfl
          subst d1
          have d2 : v2 = Value.bool true := hall 2 v2 rfl
          subst d2
          have d3 : v3 = Value.bool true := hall 3 v3 rfl
          subst d3
          have d4 : v4 = Value.bool true := hall 4 v4 rfl
          subst d4
          have d5 : v5 = Value.bool true := hall 5 v5 rfl
          subst d5
          have d6 : v6 = Value.bool true := hall 6 v6 rfl
          subst d6
          have d7 : v7 = Value.int IntKind.i64 0 := hall 7 v7 rfl
          subst d7
          have d8 : v8 = Value.bool true := hall 8 v8 rfl
          subst d8
          have d9 : v9 = Value.bool true := hall 9 v9 rfl
          subst d9
          have d10 : v10 = Value.bool true := hall 10 v10 rfl
          subst d10
          have d11 : v11 = Value.slice (some ⟨g8, o8, none⟩) 6 c8 := hall 11 v11 rfl
          subst d11
          have d12 : v12 = Value.int IntKind.i64 6 := hall 12 v12 rfl
          subst d12
          have d13 : v13 = Value.bool true := hall 13 v13 rfl
          subst d13
          have d14 : v14 = Value.bool true := hall 14 v14 rfl
          subst d14
          have d15 : v15 = Value.bool true := hall 15 v15 rfl
          subst d15
          have d16 : v16 = Value.pointer (some ⟨r1, 0, none⟩) := hall 16 v16 rfl
          subst d16
          have d17 : v17 = Value.int IntKind.i64 4 := hall 17 v17 rfl
          subst d17
          have d18 : v18 = Value.bool true := hall 18 v18 rfl
          subst d18
          have d19 : v19 = Value.bool true := hall 19 v19 rfl
          subst d19
          have d20 : v20 = Value.bool true := hall 20 v20 rfl
          subst d20
          have d21 : v21 = Value.pointer (some ⟨r2, 0, none⟩) := hall 21 v21 rfl
          subst d21
          have d22 : v22 = Value.int IntKind.i64 4 := hall 22 v22 rfl
          subst d22
          have d23 : v23 = Value.bool true := hall 23 v23 rfl
          subst d23
          have d24 : v24 = Value.bool true := hall 24 v24 rfl
          subst d24
          have d25 : v25 = Value.bool true := hall 25 v25 rfl
          subst d25
          have d26 : v26 = Value.pointer (some ⟨r3, 0, none⟩) := hall 26 v26 rfl
          subst d26
          have d27 : v27 = Value.int IntKind.i64 0 := hall 27 v27 rfl
          subst d27
          have d28 : v28 = Value.bool true := hall 28 v28 rfl
          subst d28
          have d29 : v29 = Value.bool true := hall 29 v29 rfl
          subst d29
          have d30 : v30 = Value.bool true := hall 30 v30 rfl
          subst d30
          have d31 : v31 = Value.agg #[Value.int IntKind.i64 1, Value.int IntKind.u32 2147483648] := hall 31 v31 rfl
          subst d31
          have d32 : v32 = Value.agg #[Value.int IntKind.i64 1, Value.int IntKind.u32 2147483648] := hall 32 v32 rfl
          subst d32
          have d33 : v33 = Value.bool true := hall 33 v33 rfl
          subst d33
          have d34 : v34 = Value.bool true := hall 34 v34 rfl
          subst d34
          have d35 : v35 = Value.bool true := hall 35 v35 rfl
          subst d35
          have d36 : v36 = Value.int IntKind.i64 0 := hall 36 v36 rfl
          subst d36
          have d37 : v37 = Value.bool true := hall 37 v37 rfl
          subst d37
          have d38 : v38 = Value.bool true := hall 38 v38 rfl
          subst d38
          have d39 : v39 = Value.bool true := hall 39 v39 rfl
          subst d39
          have d40 : v40 = Value.agg #[Value.int IntKind.i64 7, Value.int IntKind.u32 4294967295] := hall 40 v40 rfl
          subst d40
          have d41 : v41 = Value.agg #[Value.int IntKind.i64 7, Value.int IntKind.u32 4294967295] := hall 41 v41 rfl
          subst d41
          have d42 : v42 = Value.bool true := hall 42 v42 rfl
          subst d42
          have d43 : v43 = Value.bool true := hall 43 v43 rfl
          subst d43
          have d44 : v44 = Value.bool true := hall 44 v44 rfl
          subst d44
          have d45 : v45 = Value.agg #[Value.int IntKind.i64 0, Value.int IntKind.u32 0] := hall 45 v45 rfl
          subst d45
          have d46 : v46 = Value.agg #[Value.int IntKind.i64 0, Value.int IntKind.u32 0] := hall 46 v46 rfl
          subst d46
          have d47 : v47 = Value.bool true := hall 47 v47 rfl
          subst d47
          have d48 : v48 = Value.bool true := hall 48 v48 rfl
          subst d48
          have d49 : v49 = Value.bool true := hall 49 v49 rfl
          subst d49
          have d50 : v50 = Value.agg #[Value.int IntKind.i64 0, Value.int IntKind.u32 0] := hall 50 v50 rfl
          subst d50
          have d51 : v51 = Value.agg #[Value.int IntKind.i64 0, Value.int IntKind.u32 0] := hall 51 v51 rfl
          subst d51
          have d52 : v52 = Value.bool true := hall 52 v52 rfl
          subst d52
          have d53 : v53 = Value.bool true := hall 53 v53 rfl
          subst d53
          have d54 : v54 = Value.bool true := hall 54 v54 rfl
          subst d54
          clear hall
          simp only [puts, Act.put, List.setIfInBounds_toArray, List.set_cons_zero, List.set_cons_succ, List.take_succ_cons, List.take_zero, List.drop_succ_cons, List.drop_zero]
          have HE := hd hg.a.bel
          clear hg
          go_wp2_with fail
          go_ret
          exact VEnd.mk HE.out
    

end Go.Proofs.Ytcgimbomandjfab
