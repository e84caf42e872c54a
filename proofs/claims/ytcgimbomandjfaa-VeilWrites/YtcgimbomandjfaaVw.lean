/- VeilWrites: the law's walk. -/
import Derived.Test.YtcgimbomandjfaaWw
import Derived.Test.YtcgimbomandjfaaVq
import Derived.Test.YtcgimbomandjfaaLs
namespace Go.Proofs.Ytcgimbomandjfaa
open Go.RowKit
set_option linter.unusedVariables false

/-- All that the law has made: a label, two rows of bytes, two readers, four labels. -/
structure WW (w : World) (N : Nat) (x p : Int) (ax : Option Addr) (nx cx : Nat) (ay : Option Addr) (ny cy : Nat) (lb : List Int) (RB rb XB xb : Nat) (l m : List Int) (er lv : Int) (gm gn gp go : Nat) (X P X2 P2 : Int) (W : World) : Prop where
  bel : Below w.heap.size w W
  a : Lb W N x p
  bx : Bs (fun b => b < RB) W (.slice ax nx cx) lb
  bz : Bs (fun b => b < RB) W (.slice ay ny cy) lb
  rd : Rd RB W rb l er
  rx : Rx XB W xb m er
  lm : Lb W gm X P
  ln : Lb W gn X P
  p2 : Lb W gp X2 P2
  o2 : Lb W go X2 P2
  lr : leftOf l er = lv
  lx : leftOf m er = lv
theorem WW.call {w W : World} {N : Nat} {x p : Int} {ax : Option Addr} {nx cx : Nat} {ay : Option Addr} {ny cy : Nat} {lb : List Int} {RB rb XB xb : Nat} {l m : List Int} {er lv : Int} {gm gn gp go : Nat} {X P X2 P2 : Int} {W' : World} (h : WW w N x p ax nx cx ay ny cy lb RB rb XB xb l m er lv gm gn gp go X P X2 P2 W) (k : Below W.heap.size W W') : WW w N x p ax nx cx ay ny cy lb RB rb XB xb l m er lv gm gn gp go X P X2 P2 W' :=
  ⟨below_below h.bel k, h.a.keep k, h.bx.keepB k, h.bz.keepB k, h.rd.keep k, h.rx.keepB k, h.lm.keep k, h.ln.keep k, h.p2.keep k, h.o2.keep k, h.lr, h.lx⟩
theorem WW.drew {w W : World} {N : Nat} {x p : Int} {ax : Option Addr} {nx cx : Nat} {ay : Option Addr} {ny cy : Nat} {lb : List Int} {RB rb XB xb : Nat} {l m : List Int} {er lv : Int} {gm gn gp go : Nat} {X P X2 P2 : Int} (h : WW w N x p ax nx cx ay ny cy lb RB rb XB xb l m er lv gm gn gp go X P X2 P2 W) : WW w N x p ax nx cx ay ny cy lb RB rb XB xb l m er lv gm gn gp go X P X2 P2 W.drew := h.call (Below.refl _ _).drew
theorem WW.left {w W : World} {N : Nat} {x p : Int} {ax : Option Addr} {nx cx : Nat} {ay : Option Addr} {ny cy : Nat} {lb : List Int} {RB rb XB xb : Nat} {l m : List Int} {er lv : Int} {gm gn gp go : Nat} {X P X2 P2 : Int} (h : WW w N x p ax nx cx ay ny cy lb RB rb XB xb l m er lv gm gn gp go X P X2 P2 W) : Calls Try.prog 28 #[.pointer (some ⟨rb, 0, none⟩)] W fun e w' => VEnd W (.int .i64 lv) e w' := by
  have e := Left_any h.rd
  rw [h.lr] at e
  exact e
theorem WW.leftX {w W : World} {N : Nat} {x p : Int} {ax : Option Addr} {nx cx : Nat} {ay : Option Addr} {ny cy : Nat} {lb : List Int} {RB rb XB xb : Nat} {l m : List Int} {er lv : Int} {gm gn gp go : Nat} {X P X2 P2 : Int} (h : WW w N x p ax nx cx ay ny cy lb RB rb XB xb l m er lv gm gn gp go X P X2 P2 W) : Calls Try.prog 29 #[.pointer (some ⟨xb, 0, none⟩)] W fun e w' => VEnd W (.int .i64 lv) e w' := by
  have e := LeftX_any h.rx
  rw [h.lx] at e
  exact e

set_option maxRecDepth 100000 in
set_option maxHeartbeats 8000000 in
theorem writes_walk (x p : Int) (bv : Value) (l : List Int) (s : ByteArray) (w : World) (hp : 0 ≤ p ∧ p ≤ 4294967295) (hb : Bx w.heap.size w bv l) (hl : Byt l) (hs : s.size ≤ 140737488355328) :
    Calls Try.prog 4 #[.agg #[.int .i64 x, .int .u32 p], bv, .string s] w fun e w' => VEnd w (.bool true) e w' := by
  have WK : Hid (∀ w, Calls Try.prog 17 #[] w fun e w' => VEnd w (.bool true) e w') := hd works_true
  obtain ⟨tx, htx⟩ : ∃ t, ltext x p = t := ⟨_, rfl⟩
  have TX : Hid (∀ w, Calls Try.prog 30 #[.agg #[.int .i64 x, .int .u32 p]] w fun e w' => VEnd w (.string tx) e w') := hd (by rw [← htx]; exact fun w => text_any x p w hp)
  have TY : Hid (∀ w, Calls Try.prog 31 #[.agg #[.int .i64 x, .int .u32 p]] w fun e w' => VEnd w (.string tx) e w') := hd (by rw [← htx]; exact fun w => rtext_any x p w hp)
  obtain ⟨lb, hlb⟩ : ∃ lb, lbytes x p = lb := ⟨_, rfl⟩
  obtain ⟨be, hbe⟩ : ∃ be, lerr x = be := ⟨_, rfl⟩
  have BX := hd fun w => bytes_any x p w hp
  have BY := hd fun w => rbytes_any x p w hp
  rw [hlb, hbe] at BX BY
  obtain ⟨X2, P2, ge, hrd, hc⟩ := vread_any s hs
  have RD := hd hc
  have RY := hd fun w => rread_is s X2 P2 ge hs hrd w
  obtain ⟨n1, l1, e1, n2, l2, e2, m1, m2, u1, u2, x1, x2, hm⟩ := ux 9007199254740991 l
  have hbd := ux_bd (by omega) hl u1 u2
  have U : Hid (∀ {RB : Nat} {w : World} {rb : Nat}, Rd RB w rb l 0 → RB ≤ rb → Calls Try.prog 22 #[.pointer (some ⟨rb, 0, none⟩)] w fun e w' => TakeEnd RB w rb (tkLab n1 n2 l2 e2) e w') := hd fun h1 h2 => Take_is h1 h2 hl u1 u2
  have V : Hid (∀ {XB : Nat} {w : World} {xb : Nat}, Rx XB w xb l 0 → XB ≤ xb → Calls Try.prog 23 #[.pointer (some ⟨xb, 0, none⟩)] w fun e w' => TakeX XB w xb m2 (tkLab n1 n2 l2 e2) e w') := hd fun h1 h2 => TakeX_is h1 h2 hbd.1 x1 x2
  have HLS := hd (left_same n1 n2 e2 l2 m2 hm)
  generalize tkLab n1 n2 l2 e2 = r at *
  obtain ⟨X, P, lr, er⟩ := r
  have HB := hd hb
  clear hp hb hl hs htx hlb hbe hrd hc u1 u2 x1 x2 hm hbd
  obtain ⟨ab, nb, cb, rfl⟩ : ∃ a n c, bv = .slice a n c := by
    obtain ⟨a, c, h⟩ := HB.out.len
    exact ⟨_, _, _, h⟩
  go_enter Try.func4, Try.ntmps4
  go_wp2_with fail
  have A1 := Lb.new w x p
  have B1 := below1 w (Obj.cells #[Value.int IntKind.i64 x, Value.int IntKind.u32 p] 24)
  generalize hN : w.heap.size = N at *
  have HN := hd hN
  clear hN
  rw [← HN.out] at B1
  generalize w.alloc (Obj.cells #[Value.int IntKind.i64 x, Value.int IntKind.u32 p] 24) = w1 at *
  refine (BX.out w1).mono ?_
  rintro e w2 ⟨ax, nx, cx, rfl, _, ho, hk⟩
  have A2 := A1.keep hk
  have B2 := below_below B1 hk
  have X2' := ho.bs.weaken (A' := fun b => b < w2.heap.size) (fun b h _ => h)
  clear A1 B1 hk ho BX
  have c0 := A2.c0
  have c1 := A2.c1
  go_wp2_with fail
  refine (BY.out w2).mono ?_
  rintro e w3 ⟨ay, ny, cy, rfl, _, ho, hk⟩
  have A3 := A2.keep hk
  have B3 := below_below B2 hk
  have X3 := (X2'.keepB hk).weaken (A' := fun b => b < w3.heap.size) (fun b h _ => h)
  have Y3 := ho.bs.weaken (A' := fun b => b < w3.heap.size) (fun b h _ => h)
  clear A2 B2 hk ho BY c0 c1 X2'
  go_wp2_with fail
  refine (New_bx (HB.out.keep B3)).mono ?_
  rintro e w4 ⟨rb, rfl, hrb, hrd4, hk⟩
  have A4 := A3.keep hk
  have B4 := below_below B3 hk
  have X4 := X3.keepB hk
  have Y4 := Y3.keepB hk
  have HNR : Hid (N < w3.heap.size) := hd A3.lt
  generalize w3.heap.size = RB at *
  clear A3 B3 X3 Y3 hk
  go_wp2_with fail
  refine (NewX_of (copy_bx (HB.out.keep B4))).mono ?_
  rintro e w5 ⟨xb, rfl, hxb, hrx5, hk⟩
  have A5 := A4.keep hk
  have B5 := below_below B4 hk
  have X5 := X4.keepB hk
  have Y5 := Y4.keepB hk
  have hrd5 := hrd4.keep hk
  have HRX : Hid (rb < w4.heap.size) := hd hrd4.lt
  generalize w4.heap.size = XB at *
  have HRB := hd hrb
  have HXB := hd hxb
  clear A4 B4 X4 Y4 hk hrd4 hrb hxb
  go_wp2_with fail
  refine (U.out hrd5 HRB.out).mono ?_
  rintro e w6 ⟨rfl, hrd6, hk⟩
  have A6 := hk.old A5 (by have h1 := HNR.out; have h2 := HRB.out; omega)
  have B6 := below_kp B5 (by have h1 := HNR.out; have h2 := HRB.out; have h3 := HN.out; omega) hk
  have X6 := X5.keepO hk (fun b h e => by have h2 := HRB.out; omega)
  have Y6 := Y5.keepO hk (fun b h e => by have h2 := HRB.out; omega)
  have hrx6 := hrx5.keepO hk (Or.inl HRX.out) HXB.out
  clear A5 B5 X5 Y5 hrd5 hrx5 hk
  go_wp2_with fail
  refine (V.out hrx6 HXB.out).mono ?_
  rintro e w7 ⟨rfl, hrx7, hk⟩
  have A7 := hk.old A6 (by have h1 := HNR.out; have h2 := HRB.out; have h3 := HRX.out; have h4 := HXB.out; omega)
  have B7 := below_kp B6 (by have h1 := HNR.out; have h2 := HRB.out; have h3 := HN.out; have h4 := HRX.out; have h5 := HXB.out; omega) hk
  have X7 := X6.keepO hk (fun b h e => by have h2 := HRB.out; have h4 := HRX.out; have h5 := HXB.out; omega)
  have Y7 := Y6.keepO hk (fun b h e => by have h2 := HRB.out; have h4 := HRX.out; have h5 := HXB.out; omega)
  have hrd7 := hrd6.keepO hk (Or.inr (by have h4 := HRX.out; have h5 := HXB.out; omega)) HRB.out
  clear A6 B6 X6 Y6 hrd6 hrx6 hk
  go_wp2_with fail
  refine (RD.out _).mono ?_
  rintro e w8 ⟨rfl, hk⟩
  have hk7 := below_below (below2 w7 (Obj.cells #[Value.int IntKind.i64 X, Value.int IntKind.u32 P] 24) (Obj.cells #[Value.int IntKind.i64 X, Value.int IntKind.u32 P] 24)) hk
  have A8 := A7.keep hk7
  have B8 := below_below B7 hk7
  have X8 := X7.keepB hk7
  have Y8 := Y7.keepB hk7
  have hrd8 := hrd7.keep hk7
  have hrx8 := hrx7.keepB hk7
  have M8 := ((Lb.new w7 X P).alloc (Obj.cells #[Value.int IntKind.i64 X, Value.int IntKind.u32 P] 24)).keep hk
  have N8 := (Lb.new (w7.alloc (Obj.cells #[Value.int IntKind.i64 X, Value.int IntKind.u32 P] 24)) X P).keep hk
  rw [World.size_alloc] at N8
  generalize w7.heap.size = gm at *
  clear A7 B7 X7 Y7 hrd7 hrx7 hk hk7
  unfold le
  go_wp2_with fail
  refine (RY.out _).mono ?_
  rintro e w9 ⟨rfl, hk⟩
  have hk8 := below_below (below1 w8 (Obj.cells #[Value.int IntKind.i64 X2, Value.int IntKind.u32 P2] 24)) hk
  have A9 := A8.keep hk8
  have B9 := below_below B8 hk8
  have X9 := X8.keepB hk8
  have Y9 := Y8.keepB hk8
  have hrd9 := hrd8.keep hk8
  have hrx9 := hrx8.keepB hk8
  have M9 := M8.keep hk8
  have N9 := N8.keep hk8
  have P9 := (Lb.new w8 X2 P2).keep hk
  generalize w8.heap.size = gp at *
  clear A8 B8 X8 Y8 hrd8 hrx8 hk hk8 M8 N8
  unfold le
  go_wp2_with fail
  have WF : WW w N x p ax nx cx ay ny cy lb RB rb XB xb lr m2 er (leftOf lr er) gm (gm + 1) gp w9.heap.size X P X2 P2 (w9.alloc (Obj.cells #[Value.int IntKind.i64 X2, Value.int IntKind.u32 P2] 24)) := by
    have k := below1 w9 (Obj.cells #[Value.int IntKind.i64 X2, Value.int IntKind.u32 P2] 24)
    exact ⟨below_below B9 k, A9.keep k, X9.keepB k, Y9.keepB k, hrd9.keep k, hrx9.keepB k, M9.keep k, N9.keep k, P9.keep k, Lb.new _ _ _, rfl, HLS.out⟩
  clear A9 B9 X9 Y9 hrd9 hrx9 M9 N9 P9 HLS
  generalize w9.heap.size = go at *
  generalize w9.alloc (Obj.cells #[Value.int IntKind.i64 X2, Value.int IntKind.u32 P2] 24) = w10 at *
  generalize leftOf lr er = lv at *
  refine wp_region_each 50 (fun W W' => Below W.heap.size W W') (fun i v W => match i with | 0 => v = Value.slice ax nx cx | 1 => v = Value.slice ay ny cy | 2 => v = Value.bool true | 3 => v = Value.bool true | 4 => v = Value.int IntKind.i64 be | 5 => v = Value.int IntKind.i64 be | 6 => v = Value.bool true | 7 => v = Value.bool true | 8 => v = Value.bool true | 9 => v = Value.agg #[Value.int IntKind.i64 X, Value.int IntKind.u32 P] | 10 => v = Value.agg #[Value.int IntKind.i64 X, Value.int IntKind.u32 P] | 11 => v = Value.bool true | 12 => v = Value.bool true | 13 => v = Value.bool true | 14 => v = Value.pointer (some ⟨rb, 0, none⟩) | 15 => v = Value.int IntKind.i64 er | 16 => v = Value.pointer (some ⟨xb, 0, none⟩) | 17 => v = Value.pointer (some ⟨xb, 0, none⟩) | 18 => v = Value.pointer (some ⟨xb, 1, none⟩) | 19 => v = Value.int IntKind.i64 er | 20 => v = Value.bool true | 21 => v = Value.bool true | 22 => v = Value.bool true | 23 => v = Value.pointer (some ⟨rb, 0, none⟩) | 24 => v = Value.int IntKind.i64 lv | 25 => v = Value.pointer (some ⟨xb, 0, none⟩) | 26 => v = Value.int IntKind.i64 lv | 27 => v = Value.bool true | 28 => v = Value.bool true | 29 => v = Value.bool true | 30 => v = Value.agg #[Value.int IntKind.i64 x, Value.int IntKind.u32 p] | 31 => v = Value.string tx | 32 => v = Value.agg #[Value.int IntKind.i64 x, Value.int IntKind.u32 p] | 33 => v = Value.string tx | 34 => v = Value.bool true | 35 => v = Value.bool true | 36 => v = Value.bool true | 37 => v = Value.agg #[Value.int IntKind.i64 X2, Value.int IntKind.u32 P2] | 38 => v = Value.agg #[Value.int IntKind.i64 X2, Value.int IntKind.u32 P2] | 39 => v = Value.bool true | 40 => v = Value.bool true | 41 => v = Value.bool true | 42 => v = Value.int IntKind.i64 ge | 43 => v = Value.int IntKind.i64 ge | 44 => v = Value.bool true | 45 => v = Value.bool true | 46 => v = Value.bool true | 47 => v = Value.bool true | 48 => v = Value.bool true | 49 => v = Value.bool true | _ => True) (fun _ W => WW w N x p ax nx cx ay ny cy lb RB rb XB xb lr m2 er lv gm (gm + 1) gp go X P X2 P2 W) (by kernel_rfl) (by kernel_rfl) (fun j v W W' hE h => by
      match j with
      | 0 => exact h
      | 1 => exact h
      | 2 => exact h
      | 3 => exact h
      | 4 => exact h
      | 5 => exact h
      | 6 => exact h
      | 7 => exact h
      | 8 => exact h
      | 9 => exact h
      | 10 => exact h
      | 11 => exact h
      | 12 => exact h
      | 13 => exact h
      | 14 => exact h
      | 15 => exact h
      | 16 => exact h
      | 17 => exact h
      | 18 => exact h
      | 19 => exact h
      | 20 => exact h
      | 21 => exact h
      | 22 => exact h
      | 23 => exact h
      | 24 => exact h
      | 25 => exact h
      | 26 => exact h
      | 27 => exact h
      | 28 => exact h
      | 29 => exact h
      | 30 => exact h
      | 31 => exact h
      | 32 => exact h
      | 33 => exact h
      | 34 => exact h
      | 35 => exact h
      | 36 => exact h
      | 37 => exact h
      | 38 => exact h
      | 39 => exact h
      | 40 => exact h
      | 41 => exact h
      | 42 => exact h
      | 43 => exact h
      | 44 => exact h
      | 45 => exact h
      | 46 => exact h
      | 47 => exact h
      | 48 => exact h
      | 49 => exact h
      | _ + 50 => trivial) (WF.drew) ?_ ?_
  · simp only [List.take_succ_cons, List.take_zero]
    refine Each.cons (fun vs W hl => ?_) ?_
    · apply with50 hl
      clear hl vs
      intro v0 v1 v2 v3 v4 v5 v6 v7 v8 v9 v10 v11 v12 v13 v14 v15 v16 v17 v18 v19 v20 v21 v22 v23 v24 v25 v26 v27 v28 v29 v30 v31 v32 v33 v34 v35 v36 v37 v38 v39 v40 v41 v42 v43 v44 v45 v46 v47 v48 v49 hg hd K hK
      clear hd
      rw [if_pos (by kernel_rfl)]
      simp only [puts, Act.put, List.setIfInBounds_toArray, List.set_cons_zero, List.set_cons_succ] at hK ⊢
      go_simp
      exact hK _ _ (Below.refl _ _) rfl hg
    refine Each.cons (fun vs W hl => ?_) ?_
    · apply with50 hl
      clear hl vs
      intro v0 v1 v2 v3 v4 v5 v6 v7 v8 v9 v10 v11 v12 v13 v14 v15 v16 v17 v18 v19 v20 v21 v22 v23 v24 v25 v26 v27 v28 v29 v30 v31 v32 v33 v34 v35 v36 v37 v38 v39 v40 v41 v42 v43 v44 v45 v46 v47 v48 v49 hg hd K hK
      clear hd
      rw [if_pos (by kernel_rfl)]
      simp only [puts, Act.put, List.setIfInBounds_toArray, List.set_cons_zero, List.set_cons_succ] at hK ⊢
      go_simp
      exact hK _ _ (Below.refl _ _) rfl hg
    refine Each.cons (fun vs W hl => ?_) ?_
    · apply with50 hl
      clear hl vs
      intro v0 v1 v2 v3 v4 v5 v6 v7 v8 v9 v10 v11 v12 v13 v14 v15 v16 v17 v18 v19 v20 v21 v22 v23 v24 v25 v26 v27 v28 v29 v30 v31 v32 v33 v34 v35 v36 v37 v38 v39 v40 v41 v42 v43 v44 v45 v46 v47 v48 v49 hg hd K hK
      have d0 : v0 = Value.slice ax nx cx := hd 0 v0 (by kernel_rfl) rfl
      subst d0
      have d1 : v1 = Value.slice ay ny cy := hd 1 v1 (by kernel_rfl) rfl
      subst d1
      clear hd
      rw [if_pos (by kernel_rfl)]
      simp only [puts, Act.put, List.setIfInBounds_toArray, List.set_cons_zero, List.set_cons_succ] at hK ⊢
      go_simp
      refine (eq_v hg.bx hg.bz).mono ?_
      rintro e w' ⟨rfl, hk⟩
      exact hK _ _ hk rfl (hg.call hk)
    refine Each.cons (fun vs W hl => ?_) ?_
    · apply with50 hl
      clear hl vs
      intro v0 v1 v2 v3 v4 v5 v6 v7 v8 v9 v10 v11 v12 v13 v14 v15 v16 v17 v18 v19 v20 v21 v22 v23 v24 v25 v26 v27 v28 v29 v30 v31 v32 v33 v34 v35 v36 v37 v38 v39 v40 v41 v42 v43 v44 v45 v46 v47 v48 v49 hg hd K hK
      have d2 : v2 = Value.bool true := hd 2 v2 (by kernel_rfl) rfl
      subst d2
      clear hd
      rw [if_pos (by kernel_rfl)]
      simp only [puts, Act.put, List.setIfInBounds_toArray, List.set_cons_zero, List.set_cons_succ] at hK ⊢
      go_simp
      exact hK _ _ (Below.refl _ _) rfl hg
    refine Each.cons (fun vs W hl => ?_) ?_
    · apply with50 hl
      clear hl vs
      intro v0 v1 v2 v3 v4 v5 v6 v7 v8 v9 v10 v11 v12 v13 v14 v15 v16 v17 v18 v19 v20 v21 v22 v23 v24 v25 v26 v27 v28 v29 v30 v31 v32 v33 v34 v35 v36 v37 v38 v39 v40 v41 v42 v43 v44 v45 v46 v47 v48 v49 hg hd K hK
      have d3 : v3 = Value.bool true := hd 3 v3 (by kernel_rfl) rfl
      subst d3
      clear hd
      rw [if_pos (by kernel_rfl)]
      simp only [puts, Act.put, List.setIfInBounds_toArray, List.set_cons_zero, List.set_cons_succ] at hK ⊢
      go_simp
      exact hK _ _ (Below.refl _ _) rfl hg
    refine Each.cons (fun vs W hl => ?_) ?_
    · apply with50 hl
      clear hl vs
      intro v0 v1 v2 v3 v4 v5 v6 v7 v8 v9 v10 v11 v12 v13 v14 v15 v16 v17 v18 v19 v20 v21 v22 v23 v24 v25 v26 v27 v28 v29 v30 v31 v32 v33 v34 v35 v36 v37 v38 v39 v40 v41 v42 v43 v44 v45 v46 v47 v48 v49 hg hd K hK
      have d3 : v3 = Value.bool true := hd 3 v3 (by kernel_rfl) rfl
      subst d3
      clear hd
      rw [if_pos (by kernel_rfl)]
      simp only [puts, Act.put, List.setIfInBounds_toArray, List.set_cons_zero, List.set_cons_succ] at hK ⊢
      go_simp
      exact hK _ _ (Below.refl _ _) rfl hg
    refine Each.cons (fun vs W hl => ?_) ?_
    · apply with50 hl
      clear hl vs
      intro v0 v1 v2 v3 v4 v5 v6 v7 v8 v9 v10 v11 v12 v13 v14 v15 v16 v17 v18 v19 v20 v21 v22 v23 v24 v25 v26 v27 v28 v29 v30 v31 v32 v33 v34 v35 v36 v37 v38 v39 v40 v41 v42 v43 v44 v45 v46 v47 v48 v49 hg hd K hK
      have d3 : v3 = Value.bool true := hd 3 v3 (by kernel_rfl) rfl
      subst d3
      have d4 : v4 = Value.int IntKind.i64 be := hd 4 v4 (by kernel_rfl) rfl
      subst d4
      have d5 : v5 = Value.int IntKind.i64 be := hd 5 v5 (by kernel_rfl) rfl
      subst d5
      clear hd
      rw [if_pos (by kernel_rfl)]
      simp only [puts, Act.put, List.setIfInBounds_toArray, List.set_cons_zero, List.set_cons_succ] at hK ⊢
      go_simp
      exact hK _ _ (Below.refl _ _) (by first | rfl | simp) hg
    refine Each.cons (fun vs W hl => ?_) ?_
    · apply with50 hl
      clear hl vs
      intro v0 v1 v2 v3 v4 v5 v6 v7 v8 v9 v10 v11 v12 v13 v14 v15 v16 v17 v18 v19 v20 v21 v22 v23 v24 v25 v26 v27 v28 v29 v30 v31 v32 v33 v34 v35 v36 v37 v38 v39 v40 v41 v42 v43 v44 v45 v46 v47 v48 v49 hg hd K hK
      have d3 : v3 = Value.bool true := hd 3 v3 (by kernel_rfl) rfl
      subst d3
      have d6 : v6 = Value.bool true := hd 6 v6 (by kernel_rfl) rfl
      subst d6
      clear hd
      rw [if_pos (by kernel_rfl)]
      simp only [puts, Act.put, List.setIfInBounds_toArray, List.set_cons_zero, List.set_cons_succ] at hK ⊢
      go_simp
      exact hK _ _ (Below.refl _ _) rfl hg
    refine Each.cons (fun vs W hl => ?_) ?_
    · apply with50 hl
      clear hl vs
      intro v0 v1 v2 v3 v4 v5 v6 v7 v8 v9 v10 v11 v12 v13 v14 v15 v16 v17 v18 v19 v20 v21 v22 v23 v24 v25 v26 v27 v28 v29 v30 v31 v32 v33 v34 v35 v36 v37 v38 v39 v40 v41 v42 v43 v44 v45 v46 v47 v48 v49 hg hd K hK
      have d7 : v7 = Value.bool true := hd 7 v7 (by kernel_rfl) rfl
      subst d7
      clear hd
      rw [if_pos (by kernel_rfl)]
      simp only [puts, Act.put, List.setIfInBounds_toArray, List.set_cons_zero, List.set_cons_succ] at hK ⊢
      go_simp
      exact hK _ _ (Below.refl _ _) rfl hg
    refine Each.cons (fun vs W hl => ?_) ?_
    · apply with50 hl
      clear hl vs
      intro v0 v1 v2 v3 v4 v5 v6 v7 v8 v9 v10 v11 v12 v13 v14 v15 v16 v17 v18 v19 v20 v21 v22 v23 v24 v25 v26 v27 v28 v29 v30 v31 v32 v33 v34 v35 v36 v37 v38 v39 v40 v41 v42 v43 v44 v45 v46 v47 v48 v49 hg hd K hK
      have d8 : v8 = Value.bool true := hd 8 v8 (by kernel_rfl) rfl
      subst d8
      clear hd
      rw [if_pos (by kernel_rfl)]
      simp only [puts, Act.put, List.setIfInBounds_toArray, List.set_cons_zero, List.set_cons_succ] at hK ⊢
      have c0 := hg.lm.c0
      have c1 := hg.lm.c1
      go_simp
      exact hK _ _ (Below.refl _ _) rfl hg
    refine Each.cons (fun vs W hl => ?_) ?_
    · apply with50 hl
      clear hl vs
      intro v0 v1 v2 v3 v4 v5 v6 v7 v8 v9 v10 v11 v12 v13 v14 v15 v16 v17 v18 v19 v20 v21 v22 v23 v24 v25 v26 v27 v28 v29 v30 v31 v32 v33 v34 v35 v36 v37 v38 v39 v40 v41 v42 v43 v44 v45 v46 v47 v48 v49 hg hd K hK
      have d8 : v8 = Value.bool true := hd 8 v8 (by kernel_rfl) rfl
      subst d8
      clear hd
      rw [if_pos (by kernel_rfl)]
      simp only [puts, Act.put, List.setIfInBounds_toArray, List.set_cons_zero, List.set_cons_succ] at hK ⊢
      have c0 := hg.ln.c0
      have c1 := hg.ln.c1
      go_simp
      exact hK _ _ (Below.refl _ _) rfl hg
    refine Each.cons (fun vs W hl => ?_) ?_
    · apply with50 hl
      clear hl vs
      intro v0 v1 v2 v3 v4 v5 v6 v7 v8 v9 v10 v11 v12 v13 v14 v15 v16 v17 v18 v19 v20 v21 v22 v23 v24 v25 v26 v27 v28 v29 v30 v31 v32 v33 v34 v35 v36 v37 v38 v39 v40 v41 v42 v43 v44 v45 v46 v47 v48 v49 hg hd K hK
      have d8 : v8 = Value.bool true := hd 8 v8 (by kernel_rfl) rfl
      subst d8
      have d9 : v9 = Value.agg #[Value.int IntKind.i64 X, Value.int IntKind.u32 P] := hd 9 v9 (by kernel_rfl) rfl
      subst d9
      have d10 : v10 = Value.agg #[Value.int IntKind.i64 X, Value.int IntKind.u32 P] := hd 10 v10 (by kernel_rfl) rfl
      subst d10
      clear hd
      rw [if_pos (by kernel_rfl)]
      simp only [puts, Act.put, List.setIfInBounds_toArray, List.set_cons_zero, List.set_cons_succ] at hK ⊢
      have e24 := eq24r
      go_simp
      exact hK _ _ (Below.refl _ _) rfl hg
    refine Each.cons (fun vs W hl => ?_) ?_
    · apply with50 hl
      clear hl vs
      intro v0 v1 v2 v3 v4 v5 v6 v7 v8 v9 v10 v11 v12 v13 v14 v15 v16 v17 v18 v19 v20 v21 v22 v23 v24 v25 v26 v27 v28 v29 v30 v31 v32 v33 v34 v35 v36 v37 v38 v39 v40 v41 v42 v43 v44 v45 v46 v47 v48 v49 hg hd K hK
      have d8 : v8 = Value.bool true := hd 8 v8 (by kernel_rfl) rfl
      subst d8
      have d11 : v11 = Value.bool true := hd 11 v11 (by kernel_rfl) rfl
      subst d11
      clear hd
      rw [if_pos (by kernel_rfl)]
      simp only [puts, Act.put, List.setIfInBounds_toArray, List.set_cons_zero, List.set_cons_succ] at hK ⊢
      go_simp
      exact hK _ _ (Below.refl _ _) rfl hg
    refine Each.cons (fun vs W hl => ?_) ?_
    · apply with50 hl
      clear hl vs
      intro v0 v1 v2 v3 v4 v5 v6 v7 v8 v9 v10 v11 v12 v13 v14 v15 v16 v17 v18 v19 v20 v21 v22 v23 v24 v25 v26 v27 v28 v29 v30 v31 v32 v33 v34 v35 v36 v37 v38 v39 v40 v41 v42 v43 v44 v45 v46 v47 v48 v49 hg hd K hK
      have d12 : v12 = Value.bool true := hd 12 v12 (by kernel_rfl) rfl
      subst d12
      clear hd
      rw [if_pos (by kernel_rfl)]
      simp only [puts, Act.put, List.setIfInBounds_toArray, List.set_cons_zero, List.set_cons_succ] at hK ⊢
      go_simp
      exact hK _ _ (Below.refl _ _) rfl hg
    refine Each.cons (fun vs W hl => ?_) ?_
    · apply with50 hl
      clear hl vs
      intro v0 v1 v2 v3 v4 v5 v6 v7 v8 v9 v10 v11 v12 v13 v14 v15 v16 v17 v18 v19 v20 v21 v22 v23 v24 v25 v26 v27 v28 v29 v30 v31 v32 v33 v34 v35 v36 v37 v38 v39 v40 v41 v42 v43 v44 v45 v46 v47 v48 v49 hg hd K hK
      have d13 : v13 = Value.bool true := hd 13 v13 (by kernel_rfl) rfl
      subst d13
      clear hd
      rw [if_pos (by kernel_rfl)]
      simp only [puts, Act.put, List.setIfInBounds_toArray, List.set_cons_zero, List.set_cons_succ] at hK ⊢
      go_simp
      exact hK _ _ (Below.refl _ _) rfl hg
    refine Each.cons (fun vs W hl => ?_) ?_
    · apply with50 hl
      clear hl vs
      intro v0 v1 v2 v3 v4 v5 v6 v7 v8 v9 v10 v11 v12 v13 v14 v15 v16 v17 v18 v19 v20 v21 v22 v23 v24 v25 v26 v27 v28 v29 v30 v31 v32 v33 v34 v35 v36 v37 v38 v39 v40 v41 v42 v43 v44 v45 v46 v47 v48 v49 hg hd K hK
      have d13 : v13 = Value.bool true := hd 13 v13 (by kernel_rfl) rfl
      subst d13
      have d14 : v14 = Value.pointer (some ⟨rb, 0, none⟩) := hd 14 v14 (by kernel_rfl) rfl
      subst d14
      clear hd
      rw [if_pos (by kernel_rfl)]
      simp only [puts, Act.put, List.setIfInBounds_toArray, List.set_cons_zero, List.set_cons_succ] at hK ⊢
      go_simp
      refine (Err_v hg.rd).mono ?_
      rintro e w' ⟨rfl, hk⟩
      exact hK _ _ hk rfl (hg.call hk)
    refine Each.cons (fun vs W hl => ?_) ?_
    · apply with50 hl
      clear hl vs
      intro v0 v1 v2 v3 v4 v5 v6 v7 v8 v9 v10 v11 v12 v13 v14 v15 v16 v17 v18 v19 v20 v21 v22 v23 v24 v25 v26 v27 v28 v29 v30 v31 v32 v33 v34 v35 v36 v37 v38 v39 v40 v41 v42 v43 v44 v45 v46 v47 v48 v49 hg hd K hK
      have d13 : v13 = Value.bool true := hd 13 v13 (by kernel_rfl) rfl
      subst d13
      clear hd
      rw [if_pos (by kernel_rfl)]
      simp only [puts, Act.put, List.setIfInBounds_toArray, List.set_cons_zero, List.set_cons_succ] at hK ⊢
      go_simp
      exact hK _ _ (Below.refl _ _) rfl hg
    refine Each.cons (fun vs W hl => ?_) ?_
    · apply with50 hl
      clear hl vs
      intro v0 v1 v2 v3 v4 v5 v6 v7 v8 v9 v10 v11 v12 v13 v14 v15 v16 v17 v18 v19 v20 v21 v22 v23 v24 v25 v26 v27 v28 v29 v30 v31 v32 v33 v34 v35 v36 v37 v38 v39 v40 v41 v42 v43 v44 v45 v46 v47 v48 v49 hg hd K hK
      have d13 : v13 = Value.bool true := hd 13 v13 (by kernel_rfl) rfl
      subst d13
      have d16 : v16 = Value.pointer (some ⟨xb, 0, none⟩) := hd 16 v16 (by kernel_rfl) rfl
      subst d16
      clear hd
      rw [if_pos (by kernel_rfl)]
      simp only [puts, Act.put, List.setIfInBounds_toArray, List.set_cons_zero, List.set_cons_succ] at hK ⊢
      go_simp
      exact hK _ _ (Below.refl _ _) rfl hg
    refine Each.cons (fun vs W hl => ?_) ?_
    · apply with50 hl
      clear hl vs
      intro v0 v1 v2 v3 v4 v5 v6 v7 v8 v9 v10 v11 v12 v13 v14 v15 v16 v17 v18 v19 v20 v21 v22 v23 v24 v25 v26 v27 v28 v29 v30 v31 v32 v33 v34 v35 v36 v37 v38 v39 v40 v41 v42 v43 v44 v45 v46 v47 v48 v49 hg hd K hK
      have d13 : v13 = Value.bool true := hd 13 v13 (by kernel_rfl) rfl
      subst d13
      have d17 : v17 = Value.pointer (some ⟨xb, 0, none⟩) := hd 17 v17 (by kernel_rfl) rfl
      subst d17
      clear hd
      rw [if_pos (by kernel_rfl)]
      simp only [puts, Act.put, List.setIfInBounds_toArray, List.set_cons_zero, List.set_cons_succ] at hK ⊢
      go_simp
      exact hK _ _ (Below.refl _ _) rfl hg
    refine Each.cons (fun vs W hl => ?_) ?_
    · apply with50 hl
      clear hl vs
      intro v0 v1 v2 v3 v4 v5 v6 v7 v8 v9 v10 v11 v12 v13 v14 v15 v16 v17 v18 v19 v20 v21 v22 v23 v24 v25 v26 v27 v28 v29 v30 v31 v32 v33 v34 v35 v36 v37 v38 v39 v40 v41 v42 v43 v44 v45 v46 v47 v48 v49 hg hd K hK
      have d13 : v13 = Value.bool true := hd 13 v13 (by kernel_rfl) rfl
      subst d13
      have d18 : v18 = Value.pointer (some ⟨xb, 1, none⟩) := hd 18 v18 (by kernel_rfl) rfl
      subst d18
      clear hd
      rw [if_pos (by kernel_rfl)]
      simp only [puts, Act.put, List.setIfInBounds_toArray, List.set_cons_zero, List.set_cons_succ] at hK ⊢
      have c0 := hg.rx.err
      go_simp
      exact hK _ _ (Below.refl _ _) rfl hg
    refine Each.cons (fun vs W hl => ?_) ?_
    · apply with50 hl
      clear hl vs
      intro v0 v1 v2 v3 v4 v5 v6 v7 v8 v9 v10 v11 v12 v13 v14 v15 v16 v17 v18 v19 v20 v21 v22 v23 v24 v25 v26 v27 v28 v29 v30 v31 v32 v33 v34 v35 v36 v37 v38 v39 v40 v41 v42 v43 v44 v45 v46 v47 v48 v49 hg hd K hK
      have d13 : v13 = Value.bool true := hd 13 v13 (by kernel_rfl) rfl
      subst d13
      have d15 : v15 = Value.int IntKind.i64 er := hd 15 v15 (by kernel_rfl) rfl
      subst d15
      have d19 : v19 = Value.int IntKind.i64 er := hd 19 v19 (by kernel_rfl) rfl
      subst d19
      clear hd
      rw [if_pos (by kernel_rfl)]
      simp only [puts, Act.put, List.setIfInBounds_toArray, List.set_cons_zero, List.set_cons_succ] at hK ⊢
      go_simp
      exact hK _ _ (Below.refl _ _) (by first | rfl | simp) hg
    refine Each.cons (fun vs W hl => ?_) ?_
    · apply with50 hl
      clear hl vs
      intro v0 v1 v2 v3 v4 v5 v6 v7 v8 v9 v10 v11 v12 v13 v14 v15 v16 v17 v18 v19 v20 v21 v22 v23 v24 v25 v26 v27 v28 v29 v30 v31 v32 v33 v34 v35 v36 v37 v38 v39 v40 v41 v42 v43 v44 v45 v46 v47 v48 v49 hg hd K hK
      have d13 : v13 = Value.bool true := hd 13 v13 (by kernel_rfl) rfl
      subst d13
      have d20 : v20 = Value.bool true := hd 20 v20 (by kernel_rfl) rfl
      subst d20
      clear hd
      rw [if_pos (by kernel_rfl)]
      simp only [puts, Act.put, List.setIfInBounds_toArray, List.set_cons_zero, List.set_cons_succ] at hK ⊢
      go_simp
      exact hK _ _ (Below.refl _ _) rfl hg
    refine Each.cons (fun vs W hl => ?_) ?_
    · apply with50 hl
      clear hl vs
      intro v0 v1 v2 v3 v4 v5 v6 v7 v8 v9 v10 v11 v12 v13 v14 v15 v16 v17 v18 v19 v20 v21 v22 v23 v24 v25 v26 v27 v28 v29 v30 v31 v32 v33 v34 v35 v36 v37 v38 v39 v40 v41 v42 v43 v44 v45 v46 v47 v48 v49 hg hd K hK
      have d21 : v21 = Value.bool true := hd 21 v21 (by kernel_rfl) rfl
      subst d21
      clear hd
      rw [if_pos (by kernel_rfl)]
      simp only [puts, Act.put, List.setIfInBounds_toArray, List.set_cons_zero, List.set_cons_succ] at hK ⊢
      go_simp
      exact hK _ _ (Below.refl _ _) rfl hg
    refine Each.cons (fun vs W hl => ?_) ?_
    · apply with50 hl
      clear hl vs
      intro v0 v1 v2 v3 v4 v5 v6 v7 v8 v9 v10 v11 v12 v13 v14 v15 v16 v17 v18 v19 v20 v21 v22 v23 v24 v25 v26 v27 v28 v29 v30 v31 v32 v33 v34 v35 v36 v37 v38 v39 v40 v41 v42 v43 v44 v45 v46 v47 v48 v49 hg hd K hK
      have d22 : v22 = Value.bool true := hd 22 v22 (by kernel_rfl) rfl
      subst d22
      clear hd
      rw [if_pos (by kernel_rfl)]
      simp only [puts, Act.put, List.setIfInBounds_toArray, List.set_cons_zero, List.set_cons_succ] at hK ⊢
      go_simp
      exact hK _ _ (Below.refl _ _) rfl hg
    refine Each.cons (fun vs W hl => ?_) ?_
    · apply with50 hl
      clear hl vs
      intro v0 v1 v2 v3 v4 v5 v6 v7 v8 v9 v10 v11 v12 v13 v14 v15 v16 v17 v18 v19 v20 v21 v22 v23 v24 v25 v26 v27 v28 v29 v30 v31 v32 v33 v34 v35 v36 v37 v38 v39 v40 v41 v42 v43 v44 v45 v46 v47 v48 v49 hg hd K hK
      have d22 : v22 = Value.bool true := hd 22 v22 (by kernel_rfl) rfl
      subst d22
      have d23 : v23 = Value.pointer (some ⟨rb, 0, none⟩) := hd 23 v23 (by kernel_rfl) rfl
      subst d23
      clear hd
      rw [if_pos (by kernel_rfl)]
      simp only [puts, Act.put, List.setIfInBounds_toArray, List.set_cons_zero, List.set_cons_succ] at hK ⊢
      go_simp
      refine (hg.left).mono ?_
      rintro e w' ⟨rfl, hk⟩
      exact hK _ _ hk rfl (hg.call hk)
    refine Each.cons (fun vs W hl => ?_) ?_
    · apply with50 hl
      clear hl vs
      intro v0 v1 v2 v3 v4 v5 v6 v7 v8 v9 v10 v11 v12 v13 v14 v15 v16 v17 v18 v19 v20 v21 v22 v23 v24 v25 v26 v27 v28 v29 v30 v31 v32 v33 v34 v35 v36 v37 v38 v39 v40 v41 v42 v43 v44 v45 v46 v47 v48 v49 hg hd K hK
      have d22 : v22 = Value.bool true := hd 22 v22 (by kernel_rfl) rfl
      subst d22
      clear hd
      rw [if_pos (by kernel_rfl)]
      simp only [puts, Act.put, List.setIfInBounds_toArray, List.set_cons_zero, List.set_cons_succ] at hK ⊢
      go_simp
      exact hK _ _ (Below.refl _ _) rfl hg
    refine Each.cons (fun vs W hl => ?_) ?_
    · apply with50 hl
      clear hl vs
      intro v0 v1 v2 v3 v4 v5 v6 v7 v8 v9 v10 v11 v12 v13 v14 v15 v16 v17 v18 v19 v20 v21 v22 v23 v24 v25 v26 v27 v28 v29 v30 v31 v32 v33 v34 v35 v36 v37 v38 v39 v40 v41 v42 v43 v44 v45 v46 v47 v48 v49 hg hd K hK
      have d22 : v22 = Value.bool true := hd 22 v22 (by kernel_rfl) rfl
      subst d22
      have d25 : v25 = Value.pointer (some ⟨xb, 0, none⟩) := hd 25 v25 (by kernel_rfl) rfl
      subst d25
      clear hd
      rw [if_pos (by kernel_rfl)]
      simp only [puts, Act.put, List.setIfInBounds_toArray, List.set_cons_zero, List.set_cons_succ] at hK ⊢
      go_simp
      refine (hg.leftX).mono ?_
      rintro e w' ⟨rfl, hk⟩
      exact hK _ _ hk rfl (hg.call hk)
    refine Each.cons (fun vs W hl => ?_) ?_
    · apply with50 hl
      clear hl vs
      intro v0 v1 v2 v3 v4 v5 v6 v7 v8 v9 v10 v11 v12 v13 v14 v15 v16 v17 v18 v19 v20 v21 v22 v23 v24 v25 v26 v27 v28 v29 v30 v31 v32 v33 v34 v35 v36 v37 v38 v39 v40 v41 v42 v43 v44 v45 v46 v47 v48 v49 hg hd K hK
      have d22 : v22 = Value.bool true := hd 22 v22 (by kernel_rfl) rfl
      subst d22
      have d24 : v24 = Value.int IntKind.i64 lv := hd 24 v24 (by kernel_rfl) rfl
      subst d24
      have d26 : v26 = Value.int IntKind.i64 lv := hd 26 v26 (by kernel_rfl) rfl
      subst d26
      clear hd
      rw [if_pos (by kernel_rfl)]
      simp only [puts, Act.put, List.setIfInBounds_toArray, List.set_cons_zero, List.set_cons_succ] at hK ⊢
      go_simp
      exact hK _ _ (Below.refl _ _) (by first | rfl | simp) hg
    refine Each.cons (fun vs W hl => ?_) ?_
    · apply with50 hl
      clear hl vs
      intro v0 v1 v2 v3 v4 v5 v6 v7 v8 v9 v10 v11 v12 v13 v14 v15 v16 v17 v18 v19 v20 v21 v22 v23 v24 v25 v26 v27 v28 v29 v30 v31 v32 v33 v34 v35 v36 v37 v38 v39 v40 v41 v42 v43 v44 v45 v46 v47 v48 v49 hg hd K hK
      have d22 : v22 = Value.bool true := hd 22 v22 (by kernel_rfl) rfl
      subst d22
      have d27 : v27 = Value.bool true := hd 27 v27 (by kernel_rfl) rfl
      subst d27
      clear hd
      rw [if_pos (by kernel_rfl)]
      simp only [puts, Act.put, List.setIfInBounds_toArray, List.set_cons_zero, List.set_cons_succ] at hK ⊢
      go_simp
      exact hK _ _ (Below.refl _ _) rfl hg
    refine Each.cons (fun vs W hl => ?_) ?_
    · apply with50 hl
      clear hl vs
      intro v0 v1 v2 v3 v4 v5 v6 v7 v8 v9 v10 v11 v12 v13 v14 v15 v16 v17 v18 v19 v20 v21 v22 v23 v24 v25 v26 v27 v28 v29 v30 v31 v32 v33 v34 v35 v36 v37 v38 v39 v40 v41 v42 v43 v44 v45 v46 v47 v48 v49 hg hd K hK
      have d28 : v28 = Value.bool true := hd 28 v28 (by kernel_rfl) rfl
      subst d28
      clear hd
      rw [if_pos (by kernel_rfl)]
      simp only [puts, Act.put, List.setIfInBounds_toArray, List.set_cons_zero, List.set_cons_succ] at hK ⊢
      go_simp
      exact hK _ _ (Below.refl _ _) rfl hg
    refine Each.cons (fun vs W hl => ?_) ?_
    · apply with50 hl
      clear hl vs
      intro v0 v1 v2 v3 v4 v5 v6 v7 v8 v9 v10 v11 v12 v13 v14 v15 v16 v17 v18 v19 v20 v21 v22 v23 v24 v25 v26 v27 v28 v29 v30 v31 v32 v33 v34 v35 v36 v37 v38 v39 v40 v41 v42 v43 v44 v45 v46 v47 v48 v49 hg hd K hK
      have d29 : v29 = Value.bool true := hd 29 v29 (by kernel_rfl) rfl
      subst d29
      clear hd
      rw [if_pos (by kernel_rfl)]
      simp only [puts, Act.put, List.setIfInBounds_toArray, List.set_cons_zero, List.set_cons_succ] at hK ⊢
      have c0 := hg.a.c0
      have c1 := hg.a.c1
      go_simp
      exact hK _ _ (Below.refl _ _) rfl hg
    refine Each.cons (fun vs W hl => ?_) ?_
    · apply with50 hl
      clear hl vs
      intro v0 v1 v2 v3 v4 v5 v6 v7 v8 v9 v10 v11 v12 v13 v14 v15 v16 v17 v18 v19 v20 v21 v22 v23 v24 v25 v26 v27 v28 v29 v30 v31 v32 v33 v34 v35 v36 v37 v38 v39 v40 v41 v42 v43 v44 v45 v46 v47 v48 v49 hg hd K hK
      have d29 : v29 = Value.bool true := hd 29 v29 (by kernel_rfl) rfl
      subst d29
      have d30 : v30 = Value.agg #[Value.int IntKind.i64 x, Value.int IntKind.u32 p] := hd 30 v30 (by kernel_rfl) rfl
      subst d30
      clear hd
      rw [if_pos (by kernel_rfl)]
      simp only [puts, Act.put, List.setIfInBounds_toArray, List.set_cons_zero, List.set_cons_succ] at hK ⊢
      go_simp
      refine (TX.out _).mono ?_
      rintro e w' ⟨rfl, hk⟩
      exact hK _ _ hk rfl (hg.call hk)
    refine Each.cons (fun vs W hl => ?_) ?_
    · apply with50 hl
      clear hl vs
      intro v0 v1 v2 v3 v4 v5 v6 v7 v8 v9 v10 v11 v12 v13 v14 v15 v16 v17 v18 v19 v20 v21 v22 v23 v24 v25 v26 v27 v28 v29 v30 v31 v32 v33 v34 v35 v36 v37 v38 v39 v40 v41 v42 v43 v44 v45 v46 v47 v48 v49 hg hd K hK
      have d29 : v29 = Value.bool true := hd 29 v29 (by kernel_rfl) rfl
      subst d29
      clear hd
      rw [if_pos (by kernel_rfl)]
      simp only [puts, Act.put, List.setIfInBounds_toArray, List.set_cons_zero, List.set_cons_succ] at hK ⊢
      have c0 := hg.a.c0
      have c1 := hg.a.c1
      go_simp
      exact hK _ _ (Below.refl _ _) rfl hg
    refine Each.cons (fun vs W hl => ?_) ?_
    · apply with50 hl
      clear hl vs
      intro v0 v1 v2 v3 v4 v5 v6 v7 v8 v9 v10 v11 v12 v13 v14 v15 v16 v17 v18 v19 v20 v21 v22 v23 v24 v25 v26 v27 v28 v29 v30 v31 v32 v33 v34 v35 v36 v37 v38 v39 v40 v41 v42 v43 v44 v45 v46 v47 v48 v49 hg hd K hK
      have d29 : v29 = Value.bool true := hd 29 v29 (by kernel_rfl) rfl
      subst d29
      have d32 : v32 = Value.agg #[Value.int IntKind.i64 x, Value.int IntKind.u32 p] := hd 32 v32 (by kernel_rfl) rfl
      subst d32
      clear hd
      rw [if_pos (by kernel_rfl)]
      simp only [puts, Act.put, List.setIfInBounds_toArray, List.set_cons_zero, List.set_cons_succ] at hK ⊢
      go_simp
      refine (TY.out _).mono ?_
      rintro e w' ⟨rfl, hk⟩
      exact hK _ _ hk rfl (hg.call hk)
    refine Each.cons (fun vs W hl => ?_) ?_
    · apply with50 hl
      clear hl vs
      intro v0 v1 v2 v3 v4 v5 v6 v7 v8 v9 v10 v11 v12 v13 v14 v15 v16 v17 v18 v19 v20 v21 v22 v23 v24 v25 v26 v27 v28 v29 v30 v31 v32 v33 v34 v35 v36 v37 v38 v39 v40 v41 v42 v43 v44 v45 v46 v47 v48 v49 hg hd K hK
      have d29 : v29 = Value.bool true := hd 29 v29 (by kernel_rfl) rfl
      subst d29
      have d31 : v31 = Value.string tx := hd 31 v31 (by kernel_rfl) rfl
      subst d31
      have d33 : v33 = Value.string tx := hd 33 v33 (by kernel_rfl) rfl
      subst d33
      clear hd
      rw [if_pos (by kernel_rfl)]
      simp only [puts, Act.put, List.setIfInBounds_toArray, List.set_cons_zero, List.set_cons_succ] at hK ⊢
      go_simp
      exact hK _ _ (Below.refl _ _) (by first | rfl | simp) hg
    refine Each.cons (fun vs W hl => ?_) ?_
    · apply with50 hl
      clear hl vs
      intro v0 v1 v2 v3 v4 v5 v6 v7 v8 v9 v10 v11 v12 v13 v14 v15 v16 v17 v18 v19 v20 v21 v22 v23 v24 v25 v26 v27 v28 v29 v30 v31 v32 v33 v34 v35 v36 v37 v38 v39 v40 v41 v42 v43 v44 v45 v46 v47 v48 v49 hg hd K hK
      have d29 : v29 = Value.bool true := hd 29 v29 (by kernel_rfl) rfl
      subst d29
      have d34 : v34 = Value.bool true := hd 34 v34 (by kernel_rfl) rfl
      subst d34
      clear hd
      rw [if_pos (by kernel_rfl)]
      simp only [puts, Act.put, List.setIfInBounds_toArray, List.set_cons_zero, List.set_cons_succ] at hK ⊢
      go_simp
      exact hK _ _ (Below.refl _ _) rfl hg
    refine Each.cons (fun vs W hl => ?_) ?_
    · apply with50 hl
      clear hl vs
      intro v0 v1 v2 v3 v4 v5 v6 v7 v8 v9 v10 v11 v12 v13 v14 v15 v16 v17 v18 v19 v20 v21 v22 v23 v24 v25 v26 v27 v28 v29 v30 v31 v32 v33 v34 v35 v36 v37 v38 v39 v40 v41 v42 v43 v44 v45 v46 v47 v48 v49 hg hd K hK
      have d35 : v35 = Value.bool true := hd 35 v35 (by kernel_rfl) rfl
      subst d35
      clear hd
      rw [if_pos (by kernel_rfl)]
      simp only [puts, Act.put, List.setIfInBounds_toArray, List.set_cons_zero, List.set_cons_succ] at hK ⊢
      go_simp
      exact hK _ _ (Below.refl _ _) rfl hg
    refine Each.cons (fun vs W hl => ?_) ?_
    · apply with50 hl
      clear hl vs
      intro v0 v1 v2 v3 v4 v5 v6 v7 v8 v9 v10 v11 v12 v13 v14 v15 v16 v17 v18 v19 v20 v21 v22 v23 v24 v25 v26 v27 v28 v29 v30 v31 v32 v33 v34 v35 v36 v37 v38 v39 v40 v41 v42 v43 v44 v45 v46 v47 v48 v49 hg hd K hK
      have d36 : v36 = Value.bool true := hd 36 v36 (by kernel_rfl) rfl
      subst d36
      clear hd
      rw [if_pos (by kernel_rfl)]
      simp only [puts, Act.put, List.setIfInBounds_toArray, List.set_cons_zero, List.set_cons_succ] at hK ⊢
      have c0 := hg.p2.c0
      have c1 := hg.p2.c1
      go_simp
      exact hK _ _ (Below.refl _ _) rfl hg
    refine Each.cons (fun vs W hl => ?_) ?_
    · apply with50 hl
      clear hl vs
      intro v0 v1 v2 v3 v4 v5 v6 v7 v8 v9 v10 v11 v12 v13 v14 v15 v16 v17 v18 v19 v20 v21 v22 v23 v24 v25 v26 v27 v28 v29 v30 v31 v32 v33 v34 v35 v36 v37 v38 v39 v40 v41 v42 v43 v44 v45 v46 v47 v48 v49 hg hd K hK
      have d36 : v36 = Value.bool true := hd 36 v36 (by kernel_rfl) rfl
      subst d36
      clear hd
      rw [if_pos (by kernel_rfl)]
      simp only [puts, Act.put, List.setIfInBounds_toArray, List.set_cons_zero, List.set_cons_succ] at hK ⊢
      have c0 := hg.o2.c0
      have c1 := hg.o2.c1
      go_simp
      exact hK _ _ (Below.refl _ _) rfl hg
    refine Each.cons (fun vs W hl => ?_) ?_
    · apply with50 hl
      clear hl vs
      intro v0 v1 v2 v3 v4 v5 v6 v7 v8 v9 v10 v11 v12 v13 v14 v15 v16 v17 v18 v19 v20 v21 v22 v23 v24 v25 v26 v27 v28 v29 v30 v31 v32 v33 v34 v35 v36 v37 v38 v39 v40 v41 v42 v43 v44 v45 v46 v47 v48 v49 hg hd K hK
      have d36 : v36 = Value.bool true := hd 36 v36 (by kernel_rfl) rfl
      subst d36
      have d37 : v37 = Value.agg #[Value.int IntKind.i64 X2, Value.int IntKind.u32 P2] := hd 37 v37 (by kernel_rfl) rfl
      subst d37
      have d38 : v38 = Value.agg #[Value.int IntKind.i64 X2, Value.int IntKind.u32 P2] := hd 38 v38 (by kernel_rfl) rfl
      subst d38
      clear hd
      rw [if_pos (by kernel_rfl)]
      simp only [puts, Act.put, List.setIfInBounds_toArray, List.set_cons_zero, List.set_cons_succ] at hK ⊢
      have e24 := eq24r
      go_simp
      exact hK _ _ (Below.refl _ _) rfl hg
    refine Each.cons (fun vs W hl => ?_) ?_
    · apply with50 hl
      clear hl vs
      intro v0 v1 v2 v3 v4 v5 v6 v7 v8 v9 v10 v11 v12 v13 v14 v15 v16 v17 v18 v19 v20 v21 v22 v23 v24 v25 v26 v27 v28 v29 v30 v31 v32 v33 v34 v35 v36 v37 v38 v39 v40 v41 v42 v43 v44 v45 v46 v47 v48 v49 hg hd K hK
      have d36 : v36 = Value.bool true := hd 36 v36 (by kernel_rfl) rfl
      subst d36
      have d39 : v39 = Value.bool true := hd 39 v39 (by kernel_rfl) rfl
      subst d39
      clear hd
      rw [if_pos (by kernel_rfl)]
      simp only [puts, Act.put, List.setIfInBounds_toArray, List.set_cons_zero, List.set_cons_succ] at hK ⊢
      go_simp
      exact hK _ _ (Below.refl _ _) rfl hg
    refine Each.cons (fun vs W hl => ?_) ?_
    · apply with50 hl
      clear hl vs
      intro v0 v1 v2 v3 v4 v5 v6 v7 v8 v9 v10 v11 v12 v13 v14 v15 v16 v17 v18 v19 v20 v21 v22 v23 v24 v25 v26 v27 v28 v29 v30 v31 v32 v33 v34 v35 v36 v37 v38 v39 v40 v41 v42 v43 v44 v45 v46 v47 v48 v49 hg hd K hK
      have d40 : v40 = Value.bool true := hd 40 v40 (by kernel_rfl) rfl
      subst d40
      clear hd
      rw [if_pos (by kernel_rfl)]
      simp only [puts, Act.put, List.setIfInBounds_toArray, List.set_cons_zero, List.set_cons_succ] at hK ⊢
      go_simp
      exact hK _ _ (Below.refl _ _) rfl hg
    refine Each.cons (fun vs W hl => ?_) ?_
    · apply with50 hl
      clear hl vs
      intro v0 v1 v2 v3 v4 v5 v6 v7 v8 v9 v10 v11 v12 v13 v14 v15 v16 v17 v18 v19 v20 v21 v22 v23 v24 v25 v26 v27 v28 v29 v30 v31 v32 v33 v34 v35 v36 v37 v38 v39 v40 v41 v42 v43 v44 v45 v46 v47 v48 v49 hg hd K hK
      have d41 : v41 = Value.bool true := hd 41 v41 (by kernel_rfl) rfl
      subst d41
      clear hd
      rw [if_pos (by kernel_rfl)]
      simp only [puts, Act.put, List.setIfInBounds_toArray, List.set_cons_zero, List.set_cons_succ] at hK ⊢
      go_simp
      exact hK _ _ (Below.refl _ _) rfl hg
    refine Each.cons (fun vs W hl => ?_) ?_
    · apply with50 hl
      clear hl vs
      intro v0 v1 v2 v3 v4 v5 v6 v7 v8 v9 v10 v11 v12 v13 v14 v15 v16 v17 v18 v19 v20 v21 v22 v23 v24 v25 v26 v27 v28 v29 v30 v31 v32 v33 v34 v35 v36 v37 v38 v39 v40 v41 v42 v43 v44 v45 v46 v47 v48 v49 hg hd K hK
      have d41 : v41 = Value.bool true := hd 41 v41 (by kernel_rfl) rfl
      subst d41
      clear hd
      rw [if_pos (by kernel_rfl)]
      simp only [puts, Act.put, List.setIfInBounds_toArray, List.set_cons_zero, List.set_cons_succ] at hK ⊢
      go_simp
      exact hK _ _ (Below.refl _ _) rfl hg
    refine Each.cons (fun vs W hl => ?_) ?_
    · apply with50 hl
      clear hl vs
      intro v0 v1 v2 v3 v4 v5 v6 v7 v8 v9 v10 v11 v12 v13 v14 v15 v16 v17 v18 v19 v20 v21 v22 v23 v24 v25 v26 v27 v28 v29 v30 v31 v32 v33 v34 v35 v36 v37 v38 v39 v40 v41 v42 v43 v44 v45 v46 v47 v48 v49 hg hd K hK
      have d41 : v41 = Value.bool true := hd 41 v41 (by kernel_rfl) rfl
      subst d41
      have d42 : v42 = Value.int IntKind.i64 ge := hd 42 v42 (by kernel_rfl) rfl
      subst d42
      have d43 : v43 = Value.int IntKind.i64 ge := hd 43 v43 (by kernel_rfl) rfl
      subst d43
      clear hd
      rw [if_pos (by kernel_rfl)]
      simp only [puts, Act.put, List.setIfInBounds_toArray, List.set_cons_zero, List.set_cons_succ] at hK ⊢
      go_simp
      exact hK _ _ (Below.refl _ _) (by first | rfl | simp) hg
    refine Each.cons (fun vs W hl => ?_) ?_
    · apply with50 hl
      clear hl vs
      intro v0 v1 v2 v3 v4 v5 v6 v7 v8 v9 v10 v11 v12 v13 v14 v15 v16 v17 v18 v19 v20 v21 v22 v23 v24 v25 v26 v27 v28 v29 v30 v31 v32 v33 v34 v35 v36 v37 v38 v39 v40 v41 v42 v43 v44 v45 v46 v47 v48 v49 hg hd K hK
      have d41 : v41 = Value.bool true := hd 41 v41 (by kernel_rfl) rfl
      subst d41
      have d44 : v44 = Value.bool true := hd 44 v44 (by kernel_rfl) rfl
      subst d44
      clear hd
      rw [if_pos (by kernel_rfl)]
      simp only [puts, Act.put, List.setIfInBounds_toArray, List.set_cons_zero, List.set_cons_succ] at hK ⊢
      go_simp
      exact hK _ _ (Below.refl _ _) rfl hg
    refine Each.cons (fun vs W hl => ?_) ?_
    · apply with50 hl
      clear hl vs
      intro v0 v1 v2 v3 v4 v5 v6 v7 v8 v9 v10 v11 v12 v13 v14 v15 v16 v17 v18 v19 v20 v21 v22 v23 v24 v25 v26 v27 v28 v29 v30 v31 v32 v33 v34 v35 v36 v37 v38 v39 v40 v41 v42 v43 v44 v45 v46 v47 v48 v49 hg hd K hK
      have d45 : v45 = Value.bool true := hd 45 v45 (by kernel_rfl) rfl
      subst d45
      clear hd
      rw [if_pos (by kernel_rfl)]
      simp only [puts, Act.put, List.setIfInBounds_toArray, List.set_cons_zero, List.set_cons_succ] at hK ⊢
      go_simp
      exact hK _ _ (Below.refl _ _) rfl hg
    refine Each.cons (fun vs W hl => ?_) ?_
    · apply with50 hl
      clear hl vs
      intro v0 v1 v2 v3 v4 v5 v6 v7 v8 v9 v10 v11 v12 v13 v14 v15 v16 v17 v18 v19 v20 v21 v22 v23 v24 v25 v26 v27 v28 v29 v30 v31 v32 v33 v34 v35 v36 v37 v38 v39 v40 v41 v42 v43 v44 v45 v46 v47 v48 v49 hg hd K hK
      have d46 : v46 = Value.bool true := hd 46 v46 (by kernel_rfl) rfl
      subst d46
      clear hd
      rw [if_pos (by kernel_rfl)]
      simp only [puts, Act.put, List.setIfInBounds_toArray, List.set_cons_zero, List.set_cons_succ] at hK ⊢
      go_simp
      refine (WK.out _).mono ?_
      rintro e w' ⟨rfl, hk⟩
      exact hK _ _ hk rfl (hg.call hk)
    refine Each.cons (fun vs W hl => ?_) ?_
    · apply with50 hl
      clear hl vs
      intro v0 v1 v2 v3 v4 v5 v6 v7 v8 v9 v10 v11 v12 v13 v14 v15 v16 v17 v18 v19 v20 v21 v22 v23 v24 v25 v26 v27 v28 v29 v30 v31 v32 v33 v34 v35 v36 v37 v38 v39 v40 v41 v42 v43 v44 v45 v46 v47 v48 v49 hg hd K hK
      have d46 : v46 = Value.bool true := hd 46 v46 (by kernel_rfl) rfl
      subst d46
      have d47 : v47 = Value.bool true := hd 47 v47 (by kernel_rfl) rfl
      subst d47
      clear hd
      rw [if_pos (by kernel_rfl)]
      simp only [puts, Act.put, List.setIfInBounds_toArray, List.set_cons_zero, List.set_cons_succ] at hK ⊢
      go_simp
      exact hK _ _ (Below.refl _ _) rfl hg
    refine Each.cons (fun vs W hl => ?_) ?_
    · apply with50 hl
      clear hl vs
      intro v0 v1 v2 v3 v4 v5 v6 v7 v8 v9 v10 v11 v12 v13 v14 v15 v16 v17 v18 v19 v20 v21 v22 v23 v24 v25 v26 v27 v28 v29 v30 v31 v32 v33 v34 v35 v36 v37 v38 v39 v40 v41 v42 v43 v44 v45 v46 v47 v48 v49 hg hd K hK
      have d48 : v48 = Value.bool true := hd 48 v48 (by kernel_rfl) rfl
      subst d48
      clear hd
      rw [if_pos (by kernel_rfl)]
      simp only [puts, Act.put, List.setIfInBounds_toArray, List.set_cons_zero, List.set_cons_succ] at hK ⊢
      go_simp
      exact hK _ _ (Below.refl _ _) rfl hg
    exact Each.nil
  · intro vs W hl
    apply with50 hl
    clear hl vs
    intro v0 v1 v2 v3 v4 v5 v6 v7 v8 v9 v10 v11 v12 v13 v14 v15 v16 v17 v18 v19 v20 v21 v22 v23 v24 v25 v26 v27 v28 v29 v30 v31 v32 v33 v34 v35 v36 v37 v38 v39 v40 v41 v42 v43 v44 v45 v46 v47 v48 v49 hg hall
    have d0 : v0 = Value.slice ax nx cx := hall 0 v0 rfl
    subst d0
    have d1 : v1 = Value.slice ay ny cy := hall 1 v1 rfl
    subst d1
    have d2 : v2 = Value.bool true := hall 2 v2 rfl
    subst d2
    have d3 : v3 = Value.bool true := hall 3 v3 rfl
    subst d3
    have d4 : v4 = Value.int IntKind.i64 be := hall 4 v4 rfl
    subst d4
    have d5 : v5 = Value.int IntKind.i64 be := hall 5 v5 rfl
    subst d5
    have d6 : v6 = Value.bool true := hall 6 v6 rfl
    subst d6
    have d7 : v7 = Value.bool true := hall 7 v7 rfl
    subst d7
    have d8 : v8 = Value.bool true := hall 8 v8 rfl
    subst d8
    have d9 : v9 = Value.agg #[Value.int IntKind.i64 X, Value.int IntKind.u32 P] := hall 9 v9 rfl
    subst d9
    have d10 : v10 = Value.agg #[Value.int IntKind.i64 X, Value.int IntKind.u32 P] := hall 10 v10 rfl
    subst d10
    have d11 : v11 = Value.bool true := hall 11 v11 rfl
    subst d11
    have d12 : v12 = Value.bool true := hall 12 v12 rfl
    subst d12
    have d13 : v13 = Value.bool true := hall 13 v13 rfl
    subst d13
    have d14 : v14 = Value.pointer (some ⟨rb, 0, none⟩) := hall 14 v14 rfl
    subst d14
    have d15 : v15 = Value.int IntKind.i64 er := hall 15 v15 rfl
    subst d15
    have d16 : v16 = Value.pointer (some ⟨xb, 0, none⟩) := hall 16 v16 rfl
    subst d16
    have d17 : v17 = Value.pointer (some ⟨xb, 0, none⟩) := hall 17 v17 rfl
    subst d17
    have d18 : v18 = Value.pointer (some ⟨xb, 1, none⟩) := hall 18 v18 rfl
    subst d18
    have d19 : v19 = Value.int IntKind.i64 er := hall 19 v19 rfl
    subst d19
    have d20 : v20 = Value.bool true := hall 20 v20 rfl
    subst d20
    have d21 : v21 = Value.bool true := hall 21 v21 rfl
    subst d21
    have d22 : v22 = Value.bool true := hall 22 v22 rfl
    subst d22
    have d23 : v23 = Value.pointer (some ⟨rb, 0, none⟩) := hall 23 v23 rfl
    subst d23
    have d24 : v24 = Value.int IntKind.i64 lv := hall 24 v24 rfl
    subst d24
    have d25 : v25 = Value.pointer (some ⟨xb, 0, none⟩) := hall 25 v25 rfl
    subst d25
    have d26 : v26 = Value.int IntKind.i64 lv := hall 26 v26 rfl
    subst d26
    have d27 : v27 = Value.bool true := hall 27 v27 rfl
    subst d27
    have d28 : v28 = Value.bool true := hall 28 v28 rfl
    subst d28
    have d29 : v29 = Value.bool true := hall 29 v29 rfl
    subst d29
    have d30 : v30 = Value.agg #[Value.int IntKind.i64 x, Value.int IntKind.u32 p] := hall 30 v30 rfl
    subst d30
    have d31 : v31 = Value.string tx := hall 31 v31 rfl
    subst d31
    have d32 : v32 = Value.agg #[Value.int IntKind.i64 x, Value.int IntKind.u32 p] := hall 32 v32 rfl
    subst d32
    have d33 : v33 = Value.string tx := hall 33 v33 rfl
    subst d33
    have d34 : v34 = Value.bool true := hall 34 v34 rfl
    subst d34
    have d35 : v35 = Value.bool true := hall 35 v35 rfl
    subst d35
    have d36 : v36 = Value.bool true := hall 36 v36 rfl
    subst d36
    have d37 : v37 = Value.agg #[Value.int IntKind.i64 X2, Value.int IntKind.u32 P2] := hall 37 v37 rfl
    subst d37
    have d38 : v38 = Value.agg #[Value.int IntKind.i64 X2, Value.int IntKind.u32 P2] := hall 38 v38 rfl
    subst d38
    have d39 : v39 = Value.bool true := hall 39 v39 rfl
    subst d39
    have d40 : v40 = Value.bool true := hall 40 v40 rfl
    subst d40
    have d41 : v41 = Value.bool true := hall 41 v41 rfl
    subst d41
    have d42 : v42 = Value.int IntKind.i64 ge := hall 42 v42 rfl
    subst d42
    have d43 : v43 = Value.int IntKind.i64 ge := hall 43 v43 rfl
    subst d43
    have d44 : v44 = Value.bool true := hall 44 v44 rfl
    subst d44
    have d45 : v45 = Value.bool true := hall 45 v45 rfl
    subst d45
    have d46 : v46 = Value.bool true := hall 46 v46 rfl
    subst d46
    have d47 : v47 = Value.bool true := hall 47 v47 rfl
    subst d47
    have d48 : v48 = Value.bool true := hall 48 v48 rfl
    subst d48
    have d49 : v49 = Value.bool true := hall 49 v49 rfl
    subst d49
    clear hall
    simp only [puts, Act.put, List.setIfInBounds_toArray, List.set_cons_zero, List.set_cons_succ, List.take_succ_cons, List.take_zero, List.drop_succ_cons, List.drop_zero]
    have HE := hd hg.bel
    clear hg
    go_wp2_with fail
    go_ret
    exact VEnd.mk HE.out

end Go.Proofs.Ytcgimbomandjfaa
