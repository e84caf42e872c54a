/- The examples' helper: there and back. -/
import Derived.Test.YtibnjhnecfcimabWb8
import Derived.Test.YtibnjhnecfcimabTka
import Derived.Test.YtibnjhnecfcimabAl
import Derived.Test.YtibnjhnecfcimabSm8
import Derived.Test.YtibnjhnecfcimabVq
namespace Go.Proofs.Ytibnjhnecfcimab
open Go.RowKit
set_option linter.unusedVariables false

theorem sameA_self (a : AttrD) : sameA a a = true := (sameA_iff a a).2 rfl
theorem Step.drewN {RB rb : Nat} {l2 l3 : List Int} {e2 e3 : Int} {u v : Value} {W : World} (h : Step RB rb l2 e2 u l3 e3 v W) (m : Nat) : Step RB rb l2 e2 u l3 e3 v (W.drewN m) := by
  rcases h with ⟨h1, h2⟩ | ⟨h1, h2⟩
  · exact Or.inl ⟨h1, h2.drewN m⟩
  · exact Or.inr ⟨h1, h2.drewN m⟩
theorem eq_sx {N M : Nat} {w : World} {va vb : Value} {l : List Int} (ha : Bx N w va l) (hb : Bx M w vb l) : Calls Try.prog 33 #[va, vb] w fun e w' => e = .returned (.bool true) ∧ ∃ m, w' = w.drewN m := by
  rcases ha with ha | ⟨rfl, x, cap, rfl⟩
  · refine (eq_bx ha hb).mono ?_
    rintro e w' ⟨rfl, m, rfl⟩
    exact ⟨by rw [decide_eq_true rfl], m, rfl⟩
  · obtain ⟨y, c, rfl⟩ := hb.len
    refine (eq_none (some x) y cap c w).mono ?_
    rintro e w' ⟨rfl, rfl⟩
    exact ⟨rfl, 0, rfl⟩

set_option maxRecDepth 100000 in
set_option maxHeartbeats 1000000 in
theorem is_cells (k n : Int) (s : ByteArray) (hok : okV (k, n, s) = true) {w : World} {a : Option Addr} {z c : Nat} (hw : Bx w.heap.size w (.slice a z c) (valB (k, n, s))) :
    Calls Try.prog 32 #[.agg #[.int .i64 k, .int .i64 n, .string s], .slice a z c] w fun e w' => VEnd w (.bool true) e w' := by
  have HBY := hd (valB_byt hok)
  have HBK : Hid (takeV (valB (k, n, s)) 0 = ((k, n, s), [], 0)) := hd (by
    have h := takeV_back (k, n, s) hok []
    rw [List.append_nil] at h
    exact h)
  have HBT : Hid (∀ w, Calls Try.prog 14 #[.agg #[.int .i64 k, .int .i64 n, .string s]] w fun e w' => BEnd w (valB (k, n, s)) 0 e w') := hd (fun w => by
    have h := vbytes_any (k, n, s) w
    rw [hok] at h
    exact h)
  generalize valB (k, n, s) = L at *
  have HW := hd hw
  clear hw hok
  go_enter Try.func32, Try.ntmps32
  go_wp2_with fail
  have V1 := Bk.new w 25 #[Value.int IntKind.i64 k, Value.int IntKind.i64 n, Value.string s]
  have NB := below1 w (Obj.cells #[Value.int IntKind.i64 k, Value.int IntKind.i64 n, Value.string s] 25)
  have W1 := HW.out.go NB
  clear HW
  generalize w.alloc (Obj.cells #[Value.int IntKind.i64 k, Value.int IntKind.i64 n, Value.string s] 25) = w1 at *
  refine (HBT.out w1).mono ?_
  rintro e w2 ⟨a1, n1, cap1, rfl, hn1, ho, hk⟩
  have X2 := hd ho.bs.bx
  have W2 := hd (W1.go hk)
  have V2 := hd (V1.keep hk)
  have B2 := hd (NB.trans (hk.mono NB.size))
  clear ho hk V1 NB W1 hn1
  go_wp2_with fail
  refine (New_bx W2.out).mono ?_
  rintro e w3 ⟨rb, rfl, hle, hr3, hk⟩
  have X3 := hd (X2.out.keep hk)
  have W3 := hd (W2.out.keep hk)
  have V3_ := hd (V2.out.keep hk)
  have B3 := hd (B2.out.trans (hk.mono B2.out.size))
  have HV := hd V2.out.lt
  have R3 := hd hr3
  have HLE := hd hle
  clear hle hr3 hk X2 W2 V2 B2
  generalize w2.heap.size = N at *
  go_wp2_with fail
  refine wp_region_each 23 (fun W W' => Kp (fun b => b = rb) W W' ∧ (Rd N W rb [] 0 → Rd N W' rb [] 0)) (fun i v W => match i with | 0 => v = Value.int IntKind.i64 0 | 1 => v = Value.bool true | 2 => v = Value.bool true | 3 => v = Value.slice a1 n1 cap1 | 4 => v = Value.slice a z c | 5 => v = Value.bool true | 6 => v = Value.bool true | 7 => v = Value.bool true | 8 => v = Value.pointer (some ⟨rb, 0, none⟩) | 9 => v = Value.agg #[Value.int IntKind.i64 k, Value.int IntKind.i64 n, Value.string s] ∧ Rd N W rb [] 0 | 10 => v = Value.agg #[Value.int IntKind.i64 k, Value.int IntKind.i64 n, Value.string s] | 11 => v = Value.bool true ∧ Rd N W rb [] 0 | 12 => v = Value.bool true ∧ Rd N W rb [] 0 | 13 => v = Value.bool true ∧ Rd N W rb [] 0 | 14 => v = Value.pointer (some ⟨rb, 0, none⟩) ∧ Rd N W rb [] 0 | 15 => v = Value.int IntKind.i64 0 ∧ Rd N W rb [] 0 | 16 => v = Value.bool true ∧ Rd N W rb [] 0 | 17 => v = Value.bool true ∧ Rd N W rb [] 0 | 18 => v = Value.bool true ∧ Rd N W rb [] 0 | 19 => v = Value.pointer (some ⟨rb, 0, none⟩) ∧ Rd N W rb [] 0 | 20 => v = Value.int IntKind.i64 0 ∧ Rd N W rb [] 0 | 21 => v = Value.bool true ∧ Rd N W rb [] 0 | 22 => v = Value.bool true ∧ Rd N W rb [] 0 | _ => True) (fun vs W => Kp (fun b => b = rb) w3 W ∧ Step N rb L 0 (Value.agg #[Value.int IntKind.i64 k, Value.int IntKind.i64 n, Value.string s]) [] 0 (vs.getD 9 undef) W) (by kernel_rfl) (by kernel_rfl) (fun j v W W' hE h => by
      match j with
      | 0 => exact h
      | 1 => exact h
      | 2 => exact h
      | 3 => exact h
      | 4 => exact h
      | 5 => exact h
      | 6 => exact h
      | 7 => exact h
      | 8 => exact h
      | 9 => exact ⟨h.1, hE.2 h.2⟩
      | 10 => exact h
      | 11 => exact ⟨h.1, hE.2 h.2⟩
      | 12 => exact ⟨h.1, hE.2 h.2⟩
      | 13 => exact ⟨h.1, hE.2 h.2⟩
      | 14 => exact ⟨h.1, hE.2 h.2⟩
      | 15 => exact ⟨h.1, hE.2 h.2⟩
      | 16 => exact ⟨h.1, hE.2 h.2⟩
      | 17 => exact ⟨h.1, hE.2 h.2⟩
      | 18 => exact ⟨h.1, hE.2 h.2⟩
      | 19 => exact ⟨h.1, hE.2 h.2⟩
      | 20 => exact ⟨h.1, hE.2 h.2⟩
      | 21 => exact ⟨h.1, hE.2 h.2⟩
      | 22 => exact ⟨h.1, hE.2 h.2⟩
      | _ + 23 => trivial) (by exact ⟨(Kp.refl _ _).drew, Or.inl ⟨rfl, R3.out.keep (Below.refl _ _).drew⟩⟩) ?_ ?_
  · simp only [List.take_succ_cons, List.take_zero]
    refine Each.cons (fun vs W hl => ?_) ?_
    · apply with23 hl
      clear hl vs
      intro v0 v1 v2 v3 v4 v5 v6 v7 v8 v9 v10 v11 v12 v13 v14 v15 v16 v17 v18 v19 v20 v21 v22 hg hnew hd K hK
      clear hd
      clear hnew
      rw [if_pos (by kernel_rfl)]
      simp only [puts, Act.put, List.setIfInBounds_toArray, List.set_cons_zero, List.set_cons_succ] at hK ⊢
      go_simp
      exact hK _ _ ⟨Kp.refl _ _, id⟩ rfl hg
    refine Each.cons (fun vs W hl => ?_) ?_
    · apply with23 hl
      clear hl vs
      intro v0 v1 v2 v3 v4 v5 v6 v7 v8 v9 v10 v11 v12 v13 v14 v15 v16 v17 v18 v19 v20 v21 v22 hg hnew hd K hK
      have d0 : v0 = Value.int IntKind.i64 0 := hd 0 v0 (by kernel_rfl) rfl
      subst d0
      clear hd
      clear hnew
      rw [if_pos (by kernel_rfl)]
      simp only [puts, Act.put, List.setIfInBounds_toArray, List.set_cons_zero, List.set_cons_succ] at hK ⊢
      go_simp
      exact hK _ _ ⟨Kp.refl _ _, id⟩ (by first | rfl | simp) hg
    refine Each.cons (fun vs W hl => ?_) ?_
    · apply with23 hl
      clear hl vs
      intro v0 v1 v2 v3 v4 v5 v6 v7 v8 v9 v10 v11 v12 v13 v14 v15 v16 v17 v18 v19 v20 v21 v22 hg hnew hd K hK
      have d1 : v1 = Value.bool true := hd 1 v1 (by kernel_rfl) rfl
      subst d1
      clear hd
      clear hnew
      rw [if_pos (by kernel_rfl)]
      simp only [puts, Act.put, List.setIfInBounds_toArray, List.set_cons_zero, List.set_cons_succ] at hK ⊢
      go_simp
      exact hK _ _ ⟨Kp.refl _ _, id⟩ rfl hg
    refine Each.cons (fun vs W hl => ?_) ?_
    · apply with23 hl
      clear hl vs
      intro v0 v1 v2 v3 v4 v5 v6 v7 v8 v9 v10 v11 v12 v13 v14 v15 v16 v17 v18 v19 v20 v21 v22 hg hnew hd K hK
      have d2 : v2 = Value.bool true := hd 2 v2 (by kernel_rfl) rfl
      subst d2
      clear hd
      clear hnew
      rw [if_pos (by kernel_rfl)]
      simp only [puts, Act.put, List.setIfInBounds_toArray, List.set_cons_zero, List.set_cons_succ] at hK ⊢
      go_simp
      exact hK _ _ ⟨Kp.refl _ _, id⟩ rfl hg
    refine Each.cons (fun vs W hl => ?_) ?_
    · apply with23 hl
      clear hl vs
      intro v0 v1 v2 v3 v4 v5 v6 v7 v8 v9 v10 v11 v12 v13 v14 v15 v16 v17 v18 v19 v20 v21 v22 hg hnew hd K hK
      have d2 : v2 = Value.bool true := hd 2 v2 (by kernel_rfl) rfl
      subst d2
      clear hd
      clear hnew
      rw [if_pos (by kernel_rfl)]
      simp only [puts, Act.put, List.setIfInBounds_toArray, List.set_cons_zero, List.set_cons_succ] at hK ⊢
      go_simp
      exact hK _ _ ⟨Kp.refl _ _, id⟩ rfl hg
    refine Each.cons (fun vs W hl => ?_) ?_
    · apply with23 hl
      clear hl vs
      intro v0 v1 v2 v3 v4 v5 v6 v7 v8 v9 v10 v11 v12 v13 v14 v15 v16 v17 v18 v19 v20 v21 v22 hg hnew hd K hK
      have d2 : v2 = Value.bool true := hd 2 v2 (by kernel_rfl) rfl
      subst d2
      have d3 : v3 = Value.slice a1 n1 cap1 := hd 3 v3 (by kernel_rfl) rfl
      subst d3
      have d4 : v4 = Value.slice a z c := hd 4 v4 (by kernel_rfl) rfl
      subst d4
      clear hd
      clear hnew
      rw [if_pos (by kernel_rfl)]
      simp only [puts, Act.put, List.setIfInBounds_toArray, List.set_cons_zero, List.set_cons_succ] at hK ⊢
      go_simp
      refine (eq_sx (X3.out.keepO hg.1 HLE.out) (W3.out.keepO hg.1 HLE.out)).mono ?_
      rintro e w' ⟨rfl, m, rfl⟩
      exact hK _ _ ⟨(Kp.refl _ _).drewN m, fun h => h.drewN m⟩ rfl ⟨hg.1.trans ((Kp.refl _ _).drewN m), hg.2.drewN m⟩
    refine Each.cons (fun vs W hl => ?_) ?_
    · apply with23 hl
      clear hl vs
      intro v0 v1 v2 v3 v4 v5 v6 v7 v8 v9 v10 v11 v12 v13 v14 v15 v16 v17 v18 v19 v20 v21 v22 hg hnew hd K hK
      have d2 : v2 = Value.bool true := hd 2 v2 (by kernel_rfl) rfl
      subst d2
      have d5 : v5 = Value.bool true := hd 5 v5 (by kernel_rfl) rfl
      subst d5
      clear hd
      clear hnew
      rw [if_pos (by kernel_rfl)]
      simp only [puts, Act.put, List.setIfInBounds_toArray, List.set_cons_zero, List.set_cons_succ] at hK ⊢
      go_simp
      exact hK _ _ ⟨Kp.refl _ _, id⟩ rfl hg
    refine Each.cons (fun vs W hl => ?_) ?_
    · apply with23 hl
      clear hl vs
      intro v0 v1 v2 v3 v4 v5 v6 v7 v8 v9 v10 v11 v12 v13 v14 v15 v16 v17 v18 v19 v20 v21 v22 hg hnew hd K hK
      have d6 : v6 = Value.bool true := hd 6 v6 (by kernel_rfl) rfl
      subst d6
      clear hd
      clear hnew
      rw [if_pos (by kernel_rfl)]
      simp only [puts, Act.put, List.setIfInBounds_toArray, List.set_cons_zero, List.set_cons_succ] at hK ⊢
      go_simp
      exact hK _ _ ⟨Kp.refl _ _, id⟩ rfl hg
    refine Each.cons (fun vs W hl => ?_) ?_
    · apply with23 hl
      clear hl vs
      intro v0 v1 v2 v3 v4 v5 v6 v7 v8 v9 v10 v11 v12 v13 v14 v15 v16 v17 v18 v19 v20 v21 v22 hg hnew hd K hK
      have d7 : v7 = Value.bool true := hd 7 v7 (by kernel_rfl) rfl
      subst d7
      clear hd
      clear hnew
      rw [if_pos (by kernel_rfl)]
      simp only [puts, Act.put, List.setIfInBounds_toArray, List.set_cons_zero, List.set_cons_succ] at hK ⊢
      go_simp
      exact hK _ _ ⟨Kp.refl _ _, id⟩ rfl hg
    refine Each.cons (fun vs W hl => ?_) ?_
    · apply with23 hl
      clear hl vs
      intro v0 v1 v2 v3 v4 v5 v6 v7 v8 v9 v10 v11 v12 v13 v14 v15 v16 v17 v18 v19 v20 v21 v22 hg hnew hd K hK
      have d7 : v7 = Value.bool true := hd 7 v7 (by kernel_rfl) rfl
      subst d7
      have d8 : v8 = Value.pointer (some ⟨rb, 0, none⟩) := hd 8 v8 (by kernel_rfl) rfl
      subst d8
      have n9 : v9 = undef := by injection hnew
      clear hd hnew
      rw [if_pos (by kernel_rfl)]
      simp only [puts, Act.put, List.setIfInBounds_toArray, List.set_cons_zero, List.set_cons_succ] at hK ⊢
      obtain ⟨hg1, hg2⟩ := hg
      have hr4 : Rd N W rb L 0 := by
        rcases hg2 with ⟨_, hh⟩ | ⟨hh, _⟩
        · exact hh
        · exact absurd (n9.symm.trans hh) (by intro hh; cases hh)
      go_simp
      refine (TakeV_is hr4 HLE.out HBY.out).mono ?_
      rw [HBK.out]
      rintro e w' ⟨rfl, hr5, hk5⟩
      exact hK _ _ ⟨hk5, fun _ => hr5⟩ ⟨rfl, hr5⟩ ⟨hg1.trans hk5, Or.inr ⟨rfl, hr5⟩⟩
    refine Each.cons (fun vs W hl => ?_) ?_
    · apply with23 hl
      clear hl vs
      intro v0 v1 v2 v3 v4 v5 v6 v7 v8 v9 v10 v11 v12 v13 v14 v15 v16 v17 v18 v19 v20 v21 v22 hg hnew hd K hK
      have d7 : v7 = Value.bool true := hd 7 v7 (by kernel_rfl) rfl
      subst d7
      clear hd
      clear hnew
      rw [if_pos (by kernel_rfl)]
      simp only [puts, Act.put, List.setIfInBounds_toArray, List.set_cons_zero, List.set_cons_succ] at hK ⊢
      have c := hg.1.bk V3_.out (by have := HV.out; have := HLE.out; omega)
      have c0 := c.cell 0
      have c1 := c.cell 1
      have c2 := c.cell 2
      simp at c0 c1 c2
      go_simp
      exact hK _ _ ⟨Kp.refl _ _, id⟩ rfl hg
    refine Each.cons (fun vs W hl => ?_) ?_
    · apply with23 hl
      clear hl vs
      intro v0 v1 v2 v3 v4 v5 v6 v7 v8 v9 v10 v11 v12 v13 v14 v15 v16 v17 v18 v19 v20 v21 v22 hg hnew hd K hK
      have d7 : v7 = Value.bool true := hd 7 v7 (by kernel_rfl) rfl
      subst d7
      have d9 : v9 = Value.agg #[Value.int IntKind.i64 k, Value.int IntKind.i64 n, Value.string s] ∧ Rd N W rb [] 0 := hd 9 v9 (by kernel_rfl) rfl
      have hr9 := d9.2
      replace d9 := d9.1
      subst d9
      have d10 : v10 = Value.agg #[Value.int IntKind.i64 k, Value.int IntKind.i64 n, Value.string s] := hd 10 v10 (by kernel_rfl) rfl
      subst d10
      clear hd
      clear hnew
      rw [if_pos (by kernel_rfl)]
      simp only [puts, Act.put, List.setIfInBounds_toArray, List.set_cons_zero, List.set_cons_succ] at hK ⊢
      have e24 : ∀ W : World, (Op.equalIn 10000 25 (Value.agg #[Value.int IntKind.i64 k, Value.int IntKind.i64 n, Value.string s]) (Value.agg #[Value.int IntKind.i64 k, Value.int IntKind.i64 n, Value.string s])).run Try.prog W = .ok true W := fun W => by rw [eq23, sameV_self]
      go_simp
      exact hK _ _ ⟨Kp.refl _ _, id⟩ ⟨(by first | rfl | simp), hr9⟩ hg
    refine Each.cons (fun vs W hl => ?_) ?_
    · apply with23 hl
      clear hl vs
      intro v0 v1 v2 v3 v4 v5 v6 v7 v8 v9 v10 v11 v12 v13 v14 v15 v16 v17 v18 v19 v20 v21 v22 hg hnew hd K hK
      have d7 : v7 = Value.bool true := hd 7 v7 (by kernel_rfl) rfl
      subst d7
      have d11 : v11 = Value.bool true ∧ Rd N W rb [] 0 := hd 11 v11 (by kernel_rfl) rfl
      have hr11 := d11.2
      replace d11 := d11.1
      subst d11
      clear hd
      clear hnew
      rw [if_pos (by kernel_rfl)]
      simp only [puts, Act.put, List.setIfInBounds_toArray, List.set_cons_zero, List.set_cons_succ] at hK ⊢
      go_simp
      exact hK _ _ ⟨Kp.refl _ _, id⟩ ⟨rfl, hr11⟩ hg
    refine Each.cons (fun vs W hl => ?_) ?_
    · apply with23 hl
      clear hl vs
      intro v0 v1 v2 v3 v4 v5 v6 v7 v8 v9 v10 v11 v12 v13 v14 v15 v16 v17 v18 v19 v20 v21 v22 hg hnew hd K hK
      have d12 : v12 = Value.bool true ∧ Rd N W rb [] 0 := hd 12 v12 (by kernel_rfl) rfl
      have hr12 := d12.2
      replace d12 := d12.1
      subst d12
      clear hd
      clear hnew
      rw [if_pos (by kernel_rfl)]
      simp only [puts, Act.put, List.setIfInBounds_toArray, List.set_cons_zero, List.set_cons_succ] at hK ⊢
      go_simp
      exact hK _ _ ⟨Kp.refl _ _, id⟩ ⟨rfl, hr12⟩ hg
    refine Each.cons (fun vs W hl => ?_) ?_
    · apply with23 hl
      clear hl vs
      intro v0 v1 v2 v3 v4 v5 v6 v7 v8 v9 v10 v11 v12 v13 v14 v15 v16 v17 v18 v19 v20 v21 v22 hg hnew hd K hK
      have d13 : v13 = Value.bool true ∧ Rd N W rb [] 0 := hd 13 v13 (by kernel_rfl) rfl
      have hr13 := d13.2
      replace d13 := d13.1
      subst d13
      clear hd
      clear hnew
      rw [if_pos (by kernel_rfl)]
      simp only [puts, Act.put, List.setIfInBounds_toArray, List.set_cons_zero, List.set_cons_succ] at hK ⊢
      go_simp
      exact hK _ _ ⟨Kp.refl _ _, id⟩ ⟨rfl, hr13⟩ hg
    refine Each.cons (fun vs W hl => ?_) ?_
    · apply with23 hl
      clear hl vs
      intro v0 v1 v2 v3 v4 v5 v6 v7 v8 v9 v10 v11 v12 v13 v14 v15 v16 v17 v18 v19 v20 v21 v22 hg hnew hd K hK
      have d13 : v13 = Value.bool true ∧ Rd N W rb [] 0 := hd 13 v13 (by kernel_rfl) rfl
      have hr13 := d13.2
      replace d13 := d13.1
      subst d13
      have d14 : v14 = Value.pointer (some ⟨rb, 0, none⟩) ∧ Rd N W rb [] 0 := hd 14 v14 (by kernel_rfl) rfl
      have hr14 := d14.2
      replace d14 := d14.1
      subst d14
      clear hd
      clear hnew
      rw [if_pos (by kernel_rfl)]
      simp only [puts, Act.put, List.setIfInBounds_toArray, List.set_cons_zero, List.set_cons_succ] at hK ⊢
      go_simp
      refine (Err_any hr13).mono ?_
      rintro e w' ⟨rfl, rfl⟩
      exact hK _ _ ⟨Kp.refl _ _, id⟩ ⟨rfl, hr13⟩ hg
    refine Each.cons (fun vs W hl => ?_) ?_
    · apply with23 hl
      clear hl vs
      intro v0 v1 v2 v3 v4 v5 v6 v7 v8 v9 v10 v11 v12 v13 v14 v15 v16 v17 v18 v19 v20 v21 v22 hg hnew hd K hK
      have d13 : v13 = Value.bool true ∧ Rd N W rb [] 0 := hd 13 v13 (by kernel_rfl) rfl
      have hr13 := d13.2
      replace d13 := d13.1
      subst d13
      have d15 : v15 = Value.int IntKind.i64 0 ∧ Rd N W rb [] 0 := hd 15 v15 (by kernel_rfl) rfl
      have hr15 := d15.2
      replace d15 := d15.1
      subst d15
      clear hd
      clear hnew
      rw [if_pos (by kernel_rfl)]
      simp only [puts, Act.put, List.setIfInBounds_toArray, List.set_cons_zero, List.set_cons_succ] at hK ⊢
      go_simp
      exact hK _ _ ⟨Kp.refl _ _, id⟩ ⟨(by first | rfl | simp), hr13⟩ hg
    refine Each.cons (fun vs W hl => ?_) ?_
    · apply with23 hl
      clear hl vs
      intro v0 v1 v2 v3 v4 v5 v6 v7 v8 v9 v10 v11 v12 v13 v14 v15 v16 v17 v18 v19 v20 v21 v22 hg hnew hd K hK
      have d13 : v13 = Value.bool true ∧ Rd N W rb [] 0 := hd 13 v13 (by kernel_rfl) rfl
      have hr13 := d13.2
      replace d13 := d13.1
      subst d13
      have d16 : v16 = Value.bool true ∧ Rd N W rb [] 0 := hd 16 v16 (by kernel_rfl) rfl
      have hr16 := d16.2
      replace d16 := d16.1
      subst d16
      clear hd
      clear hnew
      rw [if_pos (by kernel_rfl)]
      simp only [puts, Act.put, List.setIfInBounds_toArray, List.set_cons_zero, List.set_cons_succ] at hK ⊢
      go_simp
      exact hK _ _ ⟨Kp.refl _ _, id⟩ ⟨rfl, hr13⟩ hg
    refine Each.cons (fun vs W hl => ?_) ?_
    · apply with23 hl
      clear hl vs
      intro v0 v1 v2 v3 v4 v5 v6 v7 v8 v9 v10 v11 v12 v13 v14 v15 v16 v17 v18 v19 v20 v21 v22 hg hnew hd K hK
      have d17 : v17 = Value.bool true ∧ Rd N W rb [] 0 := hd 17 v17 (by kernel_rfl) rfl
      have hr17 := d17.2
      replace d17 := d17.1
      subst d17
      clear hd
      clear hnew
      rw [if_pos (by kernel_rfl)]
      simp only [puts, Act.put, List.setIfInBounds_toArray, List.set_cons_zero, List.set_cons_succ] at hK ⊢
      go_simp
      exact hK _ _ ⟨Kp.refl _ _, id⟩ ⟨rfl, hr17⟩ hg
    refine Each.cons (fun vs W hl => ?_) ?_
    · apply with23 hl
      clear hl vs
      intro v0 v1 v2 v3 v4 v5 v6 v7 v8 v9 v10 v11 v12 v13 v14 v15 v16 v17 v18 v19 v20 v21 v22 hg hnew hd K hK
      have d18 : v18 = Value.bool true ∧ Rd N W rb [] 0 := hd 18 v18 (by kernel_rfl) rfl
      have hr18 := d18.2
      replace d18 := d18.1
      subst d18
      clear hd
      clear hnew
      rw [if_pos (by kernel_rfl)]
      simp only [puts, Act.put, List.setIfInBounds_toArray, List.set_cons_zero, List.set_cons_succ] at hK ⊢
      go_simp
      exact hK _ _ ⟨Kp.refl _ _, id⟩ ⟨rfl, hr18⟩ hg
    refine Each.cons (fun vs W hl => ?_) ?_
    · apply with23 hl
      clear hl vs
      intro v0 v1 v2 v3 v4 v5 v6 v7 v8 v9 v10 v11 v12 v13 v14 v15 v16 v17 v18 v19 v20 v21 v22 hg hnew hd K hK
      have d18 : v18 = Value.bool true ∧ Rd N W rb [] 0 := hd 18 v18 (by kernel_rfl) rfl
      have hr18 := d18.2
      replace d18 := d18.1
      subst d18
      have d19 : v19 = Value.pointer (some ⟨rb, 0, none⟩) ∧ Rd N W rb [] 0 := hd 19 v19 (by kernel_rfl) rfl
      have hr19 := d19.2
      replace d19 := d19.1
      subst d19
      clear hd
      clear hnew
      rw [if_pos (by kernel_rfl)]
      simp only [puts, Act.put, List.setIfInBounds_toArray, List.set_cons_zero, List.set_cons_succ] at hK ⊢
      go_simp
      refine (Left_ok hr18).mono ?_
      rintro e w' ⟨rfl, rfl⟩
      exact hK _ _ ⟨Kp.refl _ _, id⟩ ⟨rfl, hr18⟩ hg
    refine Each.cons (fun vs W hl => ?_) ?_
    · apply with23 hl
      clear hl vs
      intro v0 v1 v2 v3 v4 v5 v6 v7 v8 v9 v10 v11 v12 v13 v14 v15 v16 v17 v18 v19 v20 v21 v22 hg hnew hd K hK
      have d18 : v18 = Value.bool true ∧ Rd N W rb [] 0 := hd 18 v18 (by kernel_rfl) rfl
      have hr18 := d18.2
      replace d18 := d18.1
      subst d18
      have d20 : v20 = Value.int IntKind.i64 0 ∧ Rd N W rb [] 0 := hd 20 v20 (by kernel_rfl) rfl
      have hr20 := d20.2
      replace d20 := d20.1
      subst d20
      clear hd
      clear hnew
      rw [if_pos (by kernel_rfl)]
      simp only [puts, Act.put, List.setIfInBounds_toArray, List.set_cons_zero, List.set_cons_succ] at hK ⊢
      go_simp
      exact hK _ _ ⟨Kp.refl _ _, id⟩ ⟨(by first | rfl | simp), hr18⟩ hg
    refine Each.cons (fun vs W hl => ?_) ?_
    · apply with23 hl
      clear hl vs
      intro v0 v1 v2 v3 v4 v5 v6 v7 v8 v9 v10 v11 v12 v13 v14 v15 v16 v17 v18 v19 v20 v21 v22 hg hnew hd K hK
      have d18 : v18 = Value.bool true ∧ Rd N W rb [] 0 := hd 18 v18 (by kernel_rfl) rfl
      have hr18 := d18.2
      replace d18 := d18.1
      subst d18
      have d21 : v21 = Value.bool true ∧ Rd N W rb [] 0 := hd 21 v21 (by kernel_rfl) rfl
      have hr21 := d21.2
      replace d21 := d21.1
      subst d21
      clear hd
      clear hnew
      rw [if_pos (by kernel_rfl)]
      simp only [puts, Act.put, List.setIfInBounds_toArray, List.set_cons_zero, List.set_cons_succ] at hK ⊢
      go_simp
      exact hK _ _ ⟨Kp.refl _ _, id⟩ ⟨rfl, hr18⟩ hg
    exact Each.nil
  · intro vs W hl
    apply with23 hl
    clear hl vs
    intro v0 v1 v2 v3 v4 v5 v6 v7 v8 v9 v10 v11 v12 v13 v14 v15 v16 v17 v18 v19 v20 v21 v22 hg hall
    have d0 : v0 = Value.int IntKind.i64 0 := hall 0 v0 rfl
    subst d0
    have d1 : v1 = Value.bool true := hall 1 v1 rfl
    subst d1
    have d2 : v2 = Value.bool true := hall 2 v2 rfl
    subst d2
    have d3 : v3 = Value.slice a1 n1 cap1 := hall 3 v3 rfl
    subst d3
    have d4 : v4 = Value.slice a z c := hall 4 v4 rfl
    subst d4
    have d5 : v5 = Value.bool true := hall 5 v5 rfl
    subst d5
    have d6 : v6 = Value.bool true := hall 6 v6 rfl
    subst d6
    have d7 : v7 = Value.bool true := hall 7 v7 rfl
    subst d7
    have d8 : v8 = Value.pointer (some ⟨rb, 0, none⟩) := hall 8 v8 rfl
    subst d8
    have d9 : v9 = Value.agg #[Value.int IntKind.i64 k, Value.int IntKind.i64 n, Value.string s] ∧ Rd N W rb [] 0 := hall 9 v9 rfl
    have hr9 := d9.2
    replace d9 := d9.1
    subst d9
    have d10 : v10 = Value.agg #[Value.int IntKind.i64 k, Value.int IntKind.i64 n, Value.string s] := hall 10 v10 rfl
    subst d10
    have d11 : v11 = Value.bool true ∧ Rd N W rb [] 0 := hall 11 v11 rfl
    have hr11 := d11.2
    replace d11 := d11.1
    subst d11
    have d12 : v12 = Value.bool true ∧ Rd N W rb [] 0 := hall 12 v12 rfl
    have hr12 := d12.2
    replace d12 := d12.1
    subst d12
    have d13 : v13 = Value.bool true ∧ Rd N W rb [] 0 := hall 13 v13 rfl
    have hr13 := d13.2
    replace d13 := d13.1
    subst d13
    have d14 : v14 = Value.pointer (some ⟨rb, 0, none⟩) ∧ Rd N W rb [] 0 := hall 14 v14 rfl
    have hr14 := d14.2
    replace d14 := d14.1
    subst d14
    have d15 : v15 = Value.int IntKind.i64 0 ∧ Rd N W rb [] 0 := hall 15 v15 rfl
    have hr15 := d15.2
    replace d15 := d15.1
    subst d15
    have d16 : v16 = Value.bool true ∧ Rd N W rb [] 0 := hall 16 v16 rfl
    have hr16 := d16.2
    replace d16 := d16.1
    subst d16
    have d17 : v17 = Value.bool true ∧ Rd N W rb [] 0 := hall 17 v17 rfl
    have hr17 := d17.2
    replace d17 := d17.1
    subst d17
    have d18 : v18 = Value.bool true ∧ Rd N W rb [] 0 := hall 18 v18 rfl
    have hr18 := d18.2
    replace d18 := d18.1
    subst d18
    have d19 : v19 = Value.pointer (some ⟨rb, 0, none⟩) ∧ Rd N W rb [] 0 := hall 19 v19 rfl
    have hr19 := d19.2
    replace d19 := d19.1
    subst d19
    have d20 : v20 = Value.int IntKind.i64 0 ∧ Rd N W rb [] 0 := hall 20 v20 rfl
    have hr20 := d20.2
    replace d20 := d20.1
    subst d20
    have d21 : v21 = Value.bool true ∧ Rd N W rb [] 0 := hall 21 v21 rfl
    have hr21 := d21.2
    replace d21 := d21.1
    subst d21
    have d22 : v22 = Value.bool true ∧ Rd N W rb [] 0 := hall 22 v22 rfl
    have hr22 := d22.2
    replace d22 := d22.1
    subst d22
    clear hall
    simp only [puts, Act.put, List.setIfInBounds_toArray, List.set_cons_zero, List.set_cons_succ, List.take_succ_cons, List.take_zero, List.drop_succ_cons, List.drop_zero]
    have HK5 := hd hg.1
    clear hg
    go_wp2_with fail
    go_ret
    have hb := HK5.out.below w.heap.size B3.out.size (fun j hj e => by have h1 := HV.out; have h2 := HLE.out; have e2 : j = rb := e; omega)
    refine VEnd.mk ?_
    exact B3.out.trans hb

theorem is_ok (v : ValD) (hok : okV v = true) {w : World} {x : Value} (hw : Bx w.heap.size w x (valB v)) : Calls Try.prog 32 #[V3 v, x] w fun e w' => VEnd w (.bool true) e w' := by
  obtain ⟨k, n, s⟩ := v
  have h := hw
  rcases h with ⟨_, _, h3⟩ | ⟨_, y, cap, rfl⟩
  · rcases h3 with ⟨rfl, _⟩ | ⟨b, off, cap, rfl, _⟩
    · exact is_cells k n s hok hw
    · exact is_cells k n s hok hw
  · exact is_cells k n s hok hw

end Go.Proofs.Ytibnjhnecfcimab
