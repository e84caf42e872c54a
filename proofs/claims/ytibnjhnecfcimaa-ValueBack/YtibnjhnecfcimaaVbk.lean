/- ValueBack: the law's walk. -/
import Derived.Test.YtibnjhnecfcimaaWkv
import Derived.Test.YtibnjhnecfcimaaVp
namespace Go.Proofs.Ytibnjhnecfcimaa
open Go.RowKit
set_option linter.unusedVariables false

theorem Ow.keepR {B rb : Nat} {w w' : World} {v : Value} {l : List Int} (h : Ow B w v l) (k : Kp (fun b => b = rb) w w') (hb : ∀ g, v.ownBlock = some g → g ≠ rb) : Ow B w' v l :=
  ⟨h.1, h.2.1, h.2.2.kept (row := some rb) ⟨k.os, k.tape, k.output, k.size, fun i hi hn => k.block i hi (fun e => hn (by rw [e]))⟩ (by
    cases hv : v.ownBlock with
    | none => exact Or.inl rfl
    | some g => refine Or.inr fun e => ?_; injection e with e; exact hb g hv e)⟩
theorem Ow.nil (B : Nat) (w : World) : Ow B w (.slice none 0 0) [] := ⟨Byt.nil, Nat.zero_le _, World.ownsRow_nil w B 5 1⟩
theorem copy_ow {N : Nat} {w : World} {v : Value} {l : List Int} (h : Bx N w v l) (hl : Byt l) (hb : l.length ≤ 140737488355328) : Calls Try.prog 31 #[v] w fun e w' => RowO w l e w' := by
  obtain ⟨v', w1, hrun, ho, hk⟩ := append_ow (ty := 25) (Ow.nil w.heap.size w) h hl (Nat.le_refl _) (by simpa using hb)
  refine (copy_run v v' w w1 hrun).mono ?_
  rintro e w' ⟨rfl, rfl⟩
  rw [List.nil_append] at ho
  obtain ⟨a, cap, rfl⟩ := ho.len
  exact ⟨a, cap, rfl, ho, hk⟩

set_option maxRecDepth 100000 in
set_option maxHeartbeats 8000000 in
theorem back_walk (k n : Int) (s : ByteArray) (l : Value) (xs : List AttrD) (a : Option Addr) (z c : Nat) (Z : List Int) (w : World) (hx : El encA 6 w l xs) (hw : ∀ x ∈ xs, WfA x) (hz : Bx w.heap.size w (.slice a z c) Z) (hzl : Z.length = z) (hzb : Byt Z) (h47 : z ≤ 140737488351232) :
    Calls Try.prog 5 #[.agg #[.int .i64 k, .int .i64 n, .string s], l, .slice a z c] w fun e w' => VEnd w (.bool true) e w' := by
  obtain ⟨lx, lc, rfl⟩ := hx.form
  have HX := hd hx; have HW := hd hw; have HZ := hd hz; have HZL := hd hzl; have HZB := hd hzb; have H47 := hd h47
  clear hx hw hz hzl hzb h47
  obtain ⟨nx, hnx⟩ : ∃ q, xs.length = q := ⟨_, rfl⟩
  rw [hnx] at HX ⊢
  have HNX := hd hnx
  clear hnx
  go_enter Try.func5, Try.ntmps5
  go_wp2_with fail
  have V1 := Bk.new w 23 #[Value.int IntKind.i64 k, Value.int IntKind.i64 n, Value.string s]
  have NB := below1 w (Obj.cells #[Value.int IntKind.i64 k, Value.int IntKind.i64 n, Value.string s] 23)
  generalize w.alloc (Obj.cells #[Value.int IntKind.i64 k, Value.int IntKind.i64 n, Value.string s] 23) = w1 at *
  refine (works_true w1).mono ?_
  rintro e w2 ⟨rfl, hk⟩
  have V2 := hd (V1.keep hk)
  have B2 := hd (below_below NB hk)
  clear hk NB V1
  have c0 := V2.out.cell 0
  have c1 := V2.out.cell 1
  have c2 := V2.out.cell 2
  simp at c0 c1 c2
  go_wp2_with fail
  have hvb := vbytes_any (k, n, s) w2
  unfold V3 at hvb
  simp only at hvb
  refine hvb.mono ?_
  clear hvb c0 c1 c2
  rintro e w3 ⟨av, nv, cv, rfl, hnv, ho, hk⟩
  have T3 := hd (ho.lower (B' := w.heap.size) B2.out.size)
  have V3_ := hd (V2.out.keep hk)
  have B3 := hd (below_below B2.out hk)
  have HNV := hd hnv
  clear hk V2 B2 ho hnv
  obtain ⟨ev, hev⟩ : ∃ q : Int, (if okV (k, n, s) = true then (0 : Int) else 80) = q := ⟨_, rfl⟩
  have HEV := hd hev
  simp only [hev]
  clear hev
  go_wp2_with fail
  refine (attrs_any (HX.out.keep B3.out) HW.out).mono ?_
  rintro e w4 ⟨at_, nt, ct, rfl, hnt, ho, hk⟩
  have U4 := hd (ho.lower (B' := w.heap.size) B3.out.size)
  have V4 := hd (V3_.out.keep hk)
  have B4 := hd (below_below B3.out hk)
  have T4 := hd (T3.out.keep hk)
  have HNT := hd hnt
  clear hk V3_ B3 T3 ho hnt
  obtain ⟨et, het⟩ : ∃ q : Int, (if okAs xs = true then (0 : Int) else 80) = q := ⟨_, rfl⟩
  have HET := hd het
  simp only [het]
  have het2 : et = 0 ∨ et = 80 := by rw [← het]; cases okAs xs <;> simp
  clear het
  have c0 := V4.out.cell 0
  have c1 := V4.out.cell 1
  have c2 := V4.out.cell 2
  simp at c0 c1 c2
  go_wp2_with fail
  refine (checkV_any k n s w4).mono ?_
  rintro e w5 ⟨rfl, hk⟩
  rw [HEV.out]
  have V5 := hd (V4.out.keep hk)
  have B5 := hd (below_below B4.out hk)
  have T5 := hd (T4.out.keep hk)
  have U5 := hd (U4.out.keep hk)
  clear hk V4 B4 T4 U4 c0 c1 c2
  cases hok : okV (k, n, s)
  · have he : ev = 80 := by rw [← HEV.out, hok]; rfl
    subst he
    clear HEV
    rcases het2 with he2 | he2
    · subst he2
      go_wp2_with fail
      cases hok2 : okAs xs
      · first
        | exact absurd HET.out (by rw [hok2]; decide)
        | skip
        all_goals
          have h0 : nt = 0 := by rw [← HNT.out, hok2]; rfl
          subst h0
          clear HET HNT hok2
          go_wp2_with fail
          go_ret
          exact VEnd.mk B5.out
      · first
        | exact absurd HET.out (by rw [hok2]; decide)
        | skip
        all_goals
          have HOK2 := hd hok2
          have U := hd (show Ow w.heap.size w5 (.slice at_ nt ct) (listB xs) by have h := U5.out; rw [hok2] at h; exact h)
          have hnt := HNT.out
          rw [hok2] at hnt
          have HNT2 : Hid ((listB xs).length = nt) := hd hnt
          have HTA := hd (takeAs_back xs HOK2.out HW.out Z)
          have HLB := hd (asB_take_le HOK2.out HW.out xs.length)
          rw [List.take_of_length_le (Nat.le_refl _)] at HLB
          have HBY : Hid (Byt (listB xs)) := hd U.out.1
          have HTL : Hid ((listB xs).length ≤ 1610) := hd (by unfold listB; rw [List.length_append, Num.enc_length]; have := HLB.out; have h3 := Num.sz_bd (xs.length : Int) (by omega); omega)
          clear HLB hnt HET HNT hok2
          generalize listB xs = T at *
          go_wp2_with fail
          have hcp := copy_ow U.out.all U.out.1 (by have := HTL.out; omega)
          skip
          refine hcp.mono ?_
          clear hcp
          rintro e wa ⟨ac, cc, rfl, ho, hk⟩
          have Ba := hd (below_below B5.out hk)
          obtain ⟨v7, wb, hrun, o7, k7⟩ := append_ow (ty := 25) (ho.lower (B' := w.heap.size) B5.out.size) (HZ.out.keep Ba.out) HZB.out Ba.out.size (by have := HTL.out; have h1 := HZL.out; have h2 := H47.out; omega)
          have HRN := hd hrun
          have Bb := hd (Ba.out.trans k7)
          obtain ⟨a7, c7, rfl⟩ := o7.len
          have O7 := hd o7
          clear ho hk hrun o7 k7
          generalize hq : (T ++ Z).length = q7 at *
          clear hq
          go_wp2_with (at_builtin; refine wpList_append_run _ rfl _ _ _ _ rfl _ _ rfl rfl _ wb HRN.out ?_)
          refine (New_bx O7.out.all).mono ?_
          rintro e wc ⟨rr, rfl, hle, hr, hk⟩
          have Bc := hd (below_below Bb.out hk)
          have Rc := hd hr
          have HLE := hd hle
          have HGE := hd Bb.out.size
          clear hk hr hle Ba Bb O7 HRN
          generalize wb.heap.size = N at *
          go_wp2_with fail
          have htl := TakeL_is Rc.out HLE.out (HBY.out.append HZB.out)
          rw [HTA.out] at htl
          refine htl.mono ?_
          clear htl
          rintro e wd ⟨v8, rfl, ho, hr, hk⟩
          obtain ⟨x8, c8, hv8⟩ := ho.form
          subst hv8
          have Bd := hd (Bc.out.trans (hk.below w.heap.size Bc.out.size (fun j hj e => by have := HGE.out; have := HLE.out; have e2 : j = rr := e; omega)))
          have Rd_ := hd hr
          have Od := hd ho.el
          clear hk hr ho Rc Bc
          have hxl : (xs, Z, (0 : Int)).1.length = nx := HNX.out
          rw [hxl] at Od ⊢
          clear hxl
          simp only at Rd_
          go_wp2_with fail
          have hsm := same_any (HX.out.keep Bd.out) Od.out
          rw [sameAs_self] at hsm
          refine hsm.mono ?_
          clear hsm
          rintro e we ⟨rfl, hk⟩
          have Be := hd (below_below Bd.out hk)
          have Re := hd (Rd_.out.keep hk)
          clear hk Bd Rd_ Od
          go_wp2_with fail
          refine (Left_ok Re.out).mono ?_
          rintro e wf ⟨rfl, rfl⟩
          rw [HZL.out]
          go_wp2_with fail
          refine (Err_any Re.out).mono ?_
          rintro e wg ⟨rfl, rfl⟩
          have h8 : (nx : Int) ≤ 8 := by have := (okAs_all HOK2.out).1; rw [HNX.out] at this; omega
          go_wp2_with fail
          go_ret
          exact VEnd.mk Be.out
    · subst he2
      go_wp2_with fail
      cases hok2 : okAs xs
      · first
        | exact absurd HET.out (by rw [hok2]; decide)
        | skip
        all_goals
          have h0 : nt = 0 := by rw [← HNT.out, hok2]; rfl
          subst h0
          clear HET HNT hok2
          go_wp2_with fail
          go_ret
          exact VEnd.mk B5.out
      · first
        | exact absurd HET.out (by rw [hok2]; decide)
        | skip
        all_goals
          have HOK2 := hd hok2
          have U := hd (show Ow w.heap.size w5 (.slice at_ nt ct) (listB xs) by have h := U5.out; rw [hok2] at h; exact h)
          have hnt := HNT.out
          rw [hok2] at hnt
          have HNT2 : Hid ((listB xs).length = nt) := hd hnt
          have HTA := hd (takeAs_back xs HOK2.out HW.out Z)
          have HLB := hd (asB_take_le HOK2.out HW.out xs.length)
          rw [List.take_of_length_le (Nat.le_refl _)] at HLB
          have HBY : Hid (Byt (listB xs)) := hd U.out.1
          have HTL : Hid ((listB xs).length ≤ 1610) := hd (by unfold listB; rw [List.length_append, Num.enc_length]; have := HLB.out; have h3 := Num.sz_bd (xs.length : Int) (by omega); omega)
          clear HLB hnt HET HNT hok2
          generalize listB xs = T at *
          go_wp2_with fail
          have hcp := copy_ow U.out.all U.out.1 (by have := HTL.out; omega)
          skip
          refine hcp.mono ?_
          clear hcp
          rintro e wa ⟨ac, cc, rfl, ho, hk⟩
          have Ba := hd (below_below B5.out hk)
          obtain ⟨v7, wb, hrun, o7, k7⟩ := append_ow (ty := 25) (ho.lower (B' := w.heap.size) B5.out.size) (HZ.out.keep Ba.out) HZB.out Ba.out.size (by have := HTL.out; have h1 := HZL.out; have h2 := H47.out; omega)
          have HRN := hd hrun
          have Bb := hd (Ba.out.trans k7)
          obtain ⟨a7, c7, rfl⟩ := o7.len
          have O7 := hd o7
          clear ho hk hrun o7 k7
          generalize hq : (T ++ Z).length = q7 at *
          clear hq
          go_wp2_with (at_builtin; refine wpList_append_run _ rfl _ _ _ _ rfl _ _ rfl rfl _ wb HRN.out ?_)
          refine (New_bx O7.out.all).mono ?_
          rintro e wc ⟨rr, rfl, hle, hr, hk⟩
          have Bc := hd (below_below Bb.out hk)
          have Rc := hd hr
          have HLE := hd hle
          have HGE := hd Bb.out.size
          clear hk hr hle Ba Bb O7 HRN
          generalize wb.heap.size = N at *
          go_wp2_with fail
          have htl := TakeL_is Rc.out HLE.out (HBY.out.append HZB.out)
          rw [HTA.out] at htl
          refine htl.mono ?_
          clear htl
          rintro e wd ⟨v8, rfl, ho, hr, hk⟩
          obtain ⟨x8, c8, hv8⟩ := ho.form
          subst hv8
          have Bd := hd (Bc.out.trans (hk.below w.heap.size Bc.out.size (fun j hj e => by have := HGE.out; have := HLE.out; have e2 : j = rr := e; omega)))
          have Rd_ := hd hr
          have Od := hd ho.el
          clear hk hr ho Rc Bc
          have hxl : (xs, Z, (0 : Int)).1.length = nx := HNX.out
          rw [hxl] at Od ⊢
          clear hxl
          simp only at Rd_
          go_wp2_with fail
          have hsm := same_any (HX.out.keep Bd.out) Od.out
          rw [sameAs_self] at hsm
          refine hsm.mono ?_
          clear hsm
          rintro e we ⟨rfl, hk⟩
          have Be := hd (below_below Bd.out hk)
          have Re := hd (Rd_.out.keep hk)
          clear hk Bd Rd_ Od
          go_wp2_with fail
          refine (Left_ok Re.out).mono ?_
          rintro e wf ⟨rfl, rfl⟩
          rw [HZL.out]
          go_wp2_with fail
          refine (Err_any Re.out).mono ?_
          rintro e wg ⟨rfl, rfl⟩
          have h8 : (nx : Int) ≤ 8 := by have := (okAs_all HOK2.out).1; rw [HNX.out] at this; omega
          go_wp2_with fail
          go_ret
          exact VEnd.mk Be.out
  · have he : ev = 0 := by rw [← HEV.out, hok]; rfl
    subst he
    have HOK := hd hok
    have T := hd (show Ow w.heap.size w5 (.slice av nv cv) (valB (k, n, s)) by have h := T5.out; rw [hok] at h; exact h)
    have HTA1 := hd (takeV_back (k, n, s) hok Z)
    have HTL1 : Hid ((valB (k, n, s)).length ≤ 100) := hd (by have h := contB_len hok; rw [valB_cont, List.length_append]; omega)
    have HBY1 : Hid (Byt (valB (k, n, s))) := hd T.out.1
    clear HEV HNV hok T5
    generalize valB (k, n, s) = T1 at *
    have HE2 := hd het2
    clear het2
    rcases HE2.out with hee | hee
    all_goals
      subst hee
      have HE3 := hd (rfl : (0 : Int) = 0)
      go_wp2_with fail
      have hcp := copy_ow T.out.all T.out.1 (by have := HTL1.out; omega)
      refine hcp.mono ?_
      clear hcp
      rintro e wa ⟨ac, cc, rfl, ho, hk⟩
      have Va := hd (V5.out.keep hk)
      have Ua := hd (U5.out.keep hk)
      have Ba := hd (below_below B5.out hk)
      obtain ⟨v7, wb, hrun, o7, k7⟩ := append_ow (ty := 25) ho (HZ.out.keep Ba.out) HZB.out hk.size (by have := HTL1.out; have h1 := HZL.out; have h2 := H47.out; omega)
      have HRN := hd hrun
      have hkb := k7
      have Vb := hd ((Va.out.keepB k7 V5.out.lt))
      have Ub := hd (U5.out.keep (hk.trans k7))
      have Bb := hd (B5.out.trans ((hk.trans k7).mono B5.out.size))
      obtain ⟨a7, c7, rfl⟩ := o7.len
      have O7 := hd o7
      clear ho hk hrun o7 k7 hkb Va Ua
      generalize hq : (T1 ++ Z).length = q7 at *
      clear hq
      go_wp2_with (at_builtin; refine wpList_append_run _ rfl _ _ _ _ rfl _ _ rfl rfl _ wb HRN.out ?_)
      refine (New_bx O7.out.all).mono ?_
      rintro e wc ⟨rr, rfl, hle, hr, hk⟩
      have Bc := hd (below_below Bb.out hk)
      have Rc := hd hr
      have Vc := hd (Vb.out.keep hk)
      have Uc := hd (Ub.out.keep hk)
      have HLE := hd hle
      have HGE := hd Bb.out.size
      have HGV := hd Vb.out.lt
      have HUL := hd (fun g => (Ub.out.2.2.lt g))
      clear hk hr hle Ba Bb O7 HRN Vb Ub T V5 U5 B5
      generalize wb.heap.size = N at *
      go_wp2_with fail
      refine wp_region_each 16 (fun W W' => Kp (fun b => b = rr) W W' ∧ (Rd N W rr Z 0 → Rd N W' rr Z 0)) (fun i v W => match i with | 0 => v = Value.pointer (some ⟨rr, 0, none⟩) | 1 => v = Value.agg #[Value.int IntKind.i64 k, Value.int IntKind.i64 n, Value.string s] ∧ Rd N W rr Z 0 | 2 => v = Value.agg #[Value.int IntKind.i64 k, Value.int IntKind.i64 n, Value.string s] | 3 => v = Value.bool false ∧ Rd N W rr Z 0 | 4 => v = Value.bool false ∧ Rd N W rr Z 0 | 5 => v = Value.pointer (some ⟨rr, 0, none⟩) ∧ Rd N W rr Z 0 | 6 => v = Value.int IntKind.i64 ((z : Nat) : Int) ∧ Rd N W rr Z 0 | 7 => v = Value.slice a z c ∧ Rd N W rr Z 0 | 8 => v = Value.int IntKind.i64 ((z : Nat) : Int) ∧ Rd N W rr Z 0 | 9 => v = Value.bool false ∧ Rd N W rr Z 0 | 10 => v = Value.bool false ∧ Rd N W rr Z 0 | 11 => v = Value.bool false ∧ Rd N W rr Z 0 | 12 => v = Value.pointer (some ⟨rr, 0, none⟩) ∧ Rd N W rr Z 0 | 13 => v = Value.int IntKind.i64 0 ∧ Rd N W rr Z 0 | 14 => v = Value.bool false ∧ Rd N W rr Z 0 | 15 => v = Value.bool false ∧ Rd N W rr Z 0 | _ => True) (fun vs W => Kp (fun b => b = rr) wc W ∧ Step N rr (T1 ++ Z) 0 (Value.agg #[Value.int IntKind.i64 k, Value.int IntKind.i64 n, Value.string s]) Z 0 (vs.getD 1 undef) W) (by kernel_rfl) (by kernel_rfl) (fun j v W W' hE h => by
          match j with
          | 0 => exact h
          | 1 => exact ⟨h.1, hE.2 h.2⟩
          | 2 => exact h
          | 3 => exact ⟨h.1, hE.2 h.2⟩
          | 4 => exact ⟨h.1, hE.2 h.2⟩
          | 5 => exact ⟨h.1, hE.2 h.2⟩
          | 6 => exact ⟨h.1, hE.2 h.2⟩
          | 7 => exact ⟨h.1, hE.2 h.2⟩
          | 8 => exact ⟨h.1, hE.2 h.2⟩
          | 9 => exact ⟨h.1, hE.2 h.2⟩
          | 10 => exact ⟨h.1, hE.2 h.2⟩
          | 11 => exact ⟨h.1, hE.2 h.2⟩
          | 12 => exact ⟨h.1, hE.2 h.2⟩
          | 13 => exact ⟨h.1, hE.2 h.2⟩
          | 14 => exact ⟨h.1, hE.2 h.2⟩
          | 15 => exact ⟨h.1, hE.2 h.2⟩
          | _ + 16 => trivial) (by exact ⟨(Kp.refl _ _).drew, Or.inl ⟨rfl, Rc.out.keep (Below.refl _ _).drew⟩⟩) ?_ ?_
      · simp only [List.take_succ_cons, List.take_zero]
        refine Each.cons (fun vs W hl => ?_) ?_
        · apply with16 hl
          clear hl vs
          intro v0 v1 v2 v3 v4 v5 v6 v7 v8 v9 v10 v11 v12 v13 v14 v15 hg hnew hd K hK
          clear hd
          clear hnew
          rw [if_pos (by kernel_rfl)]
          simp only [puts, Act.put, List.setIfInBounds_toArray, List.set_cons_zero, List.set_cons_succ] at hK ⊢
          go_simp
          exact hK _ _ ⟨Kp.refl _ _, id⟩ rfl hg
        refine Each.cons (fun vs W hl => ?_) ?_
        · apply with16 hl
          clear hl vs
          intro v0 v1 v2 v3 v4 v5 v6 v7 v8 v9 v10 v11 v12 v13 v14 v15 hg hnew hd K hK
          have d0 : v0 = Value.pointer (some ⟨rr, 0, none⟩) := hd 0 v0 (by kernel_rfl) rfl
          subst d0
          have n1 : v1 = undef := by injection hnew
          clear hd hnew
          rw [if_pos (by kernel_rfl)]
          simp only [puts, Act.put, List.setIfInBounds_toArray, List.set_cons_zero, List.set_cons_succ] at hK ⊢
          obtain ⟨hg1, hg2⟩ := hg
          have hr4 : Rd N W rr (T1 ++ Z) 0 := by
            rcases hg2 with ⟨_, hh⟩ | ⟨hh, _⟩
            · exact hh
            · exact absurd (n1.symm.trans hh) (by intro hh; cases hh)
          go_simp
          refine (TakeV_is hr4 HLE.out (HBY1.out.append HZB.out)).mono ?_
          rw [HTA1.out]
          rintro e w' ⟨rfl, hr5, hk5⟩
          exact hK _ _ ⟨hk5, fun _ => hr5⟩ ⟨rfl, hr5⟩ ⟨hg1.trans hk5, Or.inr ⟨rfl, hr5⟩⟩
        refine Each.cons (fun vs W hl => ?_) ?_
        · apply with16 hl
          clear hl vs
          intro v0 v1 v2 v3 v4 v5 v6 v7 v8 v9 v10 v11 v12 v13 v14 v15 hg hnew hd K hK
          clear hd
          clear hnew
          rw [if_pos (by kernel_rfl)]
          simp only [puts, Act.put, List.setIfInBounds_toArray, List.set_cons_zero, List.set_cons_succ] at hK ⊢
          have c := hg.1.bk Vc.out (by have := HGV.out; have := HLE.out; omega)
          have c0 := c.cell 0
          have c1 := c.cell 1
          have c2 := c.cell 2
          simp at c0 c1 c2
          go_simp
          exact hK _ _ ⟨Kp.refl _ _, id⟩ rfl hg
        refine Each.cons (fun vs W hl => ?_) ?_
        · apply with16 hl
          clear hl vs
          intro v0 v1 v2 v3 v4 v5 v6 v7 v8 v9 v10 v11 v12 v13 v14 v15 hg hnew hd K hK
          have d1 : v1 = Value.agg #[Value.int IntKind.i64 k, Value.int IntKind.i64 n, Value.string s] ∧ Rd N W rr Z 0 := hd 1 v1 (by kernel_rfl) rfl
          have hr1 := d1.2
          replace d1 := d1.1
          subst d1
          have d2 : v2 = Value.agg #[Value.int IntKind.i64 k, Value.int IntKind.i64 n, Value.string s] := hd 2 v2 (by kernel_rfl) rfl
          subst d2
          clear hd
          clear hnew
          rw [if_pos (by kernel_rfl)]
          simp only [puts, Act.put, List.setIfInBounds_toArray, List.set_cons_zero, List.set_cons_succ] at hK ⊢
          have e24 : ∀ W : World, (Op.equalIn 10000 23 (Value.agg #[Value.int IntKind.i64 k, Value.int IntKind.i64 n, Value.string s]) (Value.agg #[Value.int IntKind.i64 k, Value.int IntKind.i64 n, Value.string s])).run Try.prog W = .ok true W := fun W => by rw [eq23, sameV_self]
          go_simp
          exact hK _ _ ⟨Kp.refl _ _, id⟩ ⟨(by first | rfl | simp), hr1⟩ hg
        refine Each.cons (fun vs W hl => ?_) ?_
        · apply with16 hl
          clear hl vs
          intro v0 v1 v2 v3 v4 v5 v6 v7 v8 v9 v10 v11 v12 v13 v14 v15 hg hnew hd K hK
          have d3 : v3 = Value.bool false ∧ Rd N W rr Z 0 := hd 3 v3 (by kernel_rfl) rfl
          have hr3 := d3.2
          replace d3 := d3.1
          subst d3
          clear hd
          clear hnew
          rw [if_pos (by kernel_rfl)]
          simp only [puts, Act.put, List.setIfInBounds_toArray, List.set_cons_zero, List.set_cons_succ] at hK ⊢
          go_simp
          exact hK _ _ ⟨Kp.refl _ _, id⟩ ⟨rfl, hr3⟩ hg
        refine Each.cons (fun vs W hl => ?_) ?_
        · apply with16 hl
          clear hl vs
          intro v0 v1 v2 v3 v4 v5 v6 v7 v8 v9 v10 v11 v12 v13 v14 v15 hg hnew hd K hK
          have d4 : v4 = Value.bool false ∧ Rd N W rr Z 0 := hd 4 v4 (by kernel_rfl) rfl
          have hr4 := d4.2
          replace d4 := d4.1
          subst d4
          clear hd
          clear hnew
          rw [if_pos (by kernel_rfl)]
          simp only [puts, Act.put, List.setIfInBounds_toArray, List.set_cons_zero, List.set_cons_succ] at hK ⊢
          go_simp
          exact hK _ _ ⟨Kp.refl _ _, id⟩ ⟨rfl, hr4⟩ hg
        refine Each.cons (fun vs W hl => ?_) ?_
        · apply with16 hl
          clear hl vs
          intro v0 v1 v2 v3 v4 v5 v6 v7 v8 v9 v10 v11 v12 v13 v14 v15 hg hnew hd K hK
          have d4 : v4 = Value.bool false ∧ Rd N W rr Z 0 := hd 4 v4 (by kernel_rfl) rfl
          have hr4 := d4.2
          replace d4 := d4.1
          subst d4
          have d5 : v5 = Value.pointer (some ⟨rr, 0, none⟩) ∧ Rd N W rr Z 0 := hd 5 v5 (by kernel_rfl) rfl
          have hr5 := d5.2
          replace d5 := d5.1
          subst d5
          clear hd
          clear hnew
          rw [if_pos (by kernel_rfl)]
          simp only [puts, Act.put, List.setIfInBounds_toArray, List.set_cons_zero, List.set_cons_succ] at hK ⊢
          go_simp
          refine (Left_ok hr4).mono ?_
          rw [HZL.out]
          rintro e w' ⟨rfl, rfl⟩
          exact hK _ _ ⟨Kp.refl _ _, id⟩ ⟨rfl, hr4⟩ hg
        refine Each.cons (fun vs W hl => ?_) ?_
        · apply with16 hl
          clear hl vs
          intro v0 v1 v2 v3 v4 v5 v6 v7 v8 v9 v10 v11 v12 v13 v14 v15 hg hnew hd K hK
          have d4 : v4 = Value.bool false ∧ Rd N W rr Z 0 := hd 4 v4 (by kernel_rfl) rfl
          have hr4 := d4.2
          replace d4 := d4.1
          subst d4
          clear hd
          clear hnew
          rw [if_pos (by kernel_rfl)]
          simp only [puts, Act.put, List.setIfInBounds_toArray, List.set_cons_zero, List.set_cons_succ] at hK ⊢
          go_simp
          exact hK _ _ ⟨Kp.refl _ _, id⟩ ⟨rfl, hr4⟩ hg
        refine Each.cons (fun vs W hl => ?_) ?_
        · apply with16 hl
          clear hl vs
          intro v0 v1 v2 v3 v4 v5 v6 v7 v8 v9 v10 v11 v12 v13 v14 v15 hg hnew hd K hK
          have d4 : v4 = Value.bool false ∧ Rd N W rr Z 0 := hd 4 v4 (by kernel_rfl) rfl
          have hr4 := d4.2
          replace d4 := d4.1
          subst d4
          have d7 : v7 = Value.slice a z c ∧ Rd N W rr Z 0 := hd 7 v7 (by kernel_rfl) rfl
          have hr7 := d7.2
          replace d7 := d7.1
          subst d7
          clear hd
          clear hnew
          rw [if_pos (by kernel_rfl)]
          simp only [puts, Act.put, List.setIfInBounds_toArray, List.set_cons_zero, List.set_cons_succ] at hK ⊢
          go_simp
          exact hK _ _ ⟨Kp.refl _ _, id⟩ ⟨rfl, hr4⟩ hg
        refine Each.cons (fun vs W hl => ?_) ?_
        · apply with16 hl
          clear hl vs
          intro v0 v1 v2 v3 v4 v5 v6 v7 v8 v9 v10 v11 v12 v13 v14 v15 hg hnew hd K hK
          have d4 : v4 = Value.bool false ∧ Rd N W rr Z 0 := hd 4 v4 (by kernel_rfl) rfl
          have hr4 := d4.2
          replace d4 := d4.1
          subst d4
          have d6 : v6 = Value.int IntKind.i64 ((z : Nat) : Int) ∧ Rd N W rr Z 0 := hd 6 v6 (by kernel_rfl) rfl
          have hr6 := d6.2
          replace d6 := d6.1
          subst d6
          have d8 : v8 = Value.int IntKind.i64 ((z : Nat) : Int) ∧ Rd N W rr Z 0 := hd 8 v8 (by kernel_rfl) rfl
          have hr8 := d8.2
          replace d8 := d8.1
          subst d8
          clear hd
          clear hnew
          rw [if_pos (by kernel_rfl)]
          simp only [puts, Act.put, List.setIfInBounds_toArray, List.set_cons_zero, List.set_cons_succ] at hK ⊢
          go_simp
          exact hK _ _ ⟨Kp.refl _ _, id⟩ ⟨(by first | rfl | simp), hr4⟩ hg
        refine Each.cons (fun vs W hl => ?_) ?_
        · apply with16 hl
          clear hl vs
          intro v0 v1 v2 v3 v4 v5 v6 v7 v8 v9 v10 v11 v12 v13 v14 v15 hg hnew hd K hK
          have d4 : v4 = Value.bool false ∧ Rd N W rr Z 0 := hd 4 v4 (by kernel_rfl) rfl
          have hr4 := d4.2
          replace d4 := d4.1
          subst d4
          have d9 : v9 = Value.bool false ∧ Rd N W rr Z 0 := hd 9 v9 (by kernel_rfl) rfl
          have hr9 := d9.2
          replace d9 := d9.1
          subst d9
          clear hd
          clear hnew
          rw [if_pos (by kernel_rfl)]
          simp only [puts, Act.put, List.setIfInBounds_toArray, List.set_cons_zero, List.set_cons_succ] at hK ⊢
          go_simp
          exact hK _ _ ⟨Kp.refl _ _, id⟩ ⟨rfl, hr4⟩ hg
        refine Each.cons (fun vs W hl => ?_) ?_
        · apply with16 hl
          clear hl vs
          intro v0 v1 v2 v3 v4 v5 v6 v7 v8 v9 v10 v11 v12 v13 v14 v15 hg hnew hd K hK
          have d10 : v10 = Value.bool false ∧ Rd N W rr Z 0 := hd 10 v10 (by kernel_rfl) rfl
          have hr10 := d10.2
          replace d10 := d10.1
          subst d10
          clear hd
          clear hnew
          rw [if_pos (by kernel_rfl)]
          simp only [puts, Act.put, List.setIfInBounds_toArray, List.set_cons_zero, List.set_cons_succ] at hK ⊢
          go_simp
          exact hK _ _ ⟨Kp.refl _ _, id⟩ ⟨rfl, hr10⟩ hg
        refine Each.cons (fun vs W hl => ?_) ?_
        · apply with16 hl
          clear hl vs
          intro v0 v1 v2 v3 v4 v5 v6 v7 v8 v9 v10 v11 v12 v13 v14 v15 hg hnew hd K hK
          have d11 : v11 = Value.bool false ∧ Rd N W rr Z 0 := hd 11 v11 (by kernel_rfl) rfl
          have hr11 := d11.2
          replace d11 := d11.1
          subst d11
          clear hd
          clear hnew
          rw [if_pos (by kernel_rfl)]
          simp only [puts, Act.put, List.setIfInBounds_toArray, List.set_cons_zero, List.set_cons_succ] at hK ⊢
          go_simp
          exact hK _ _ ⟨Kp.refl _ _, id⟩ ⟨rfl, hr11⟩ hg
        refine Each.cons (fun vs W hl => ?_) ?_
        · apply with16 hl
          clear hl vs
          intro v0 v1 v2 v3 v4 v5 v6 v7 v8 v9 v10 v11 v12 v13 v14 v15 hg hnew hd K hK
          have d11 : v11 = Value.bool false ∧ Rd N W rr Z 0 := hd 11 v11 (by kernel_rfl) rfl
          have hr11 := d11.2
          replace d11 := d11.1
          subst d11
          have d12 : v12 = Value.pointer (some ⟨rr, 0, none⟩) ∧ Rd N W rr Z 0 := hd 12 v12 (by kernel_rfl) rfl
          have hr12 := d12.2
          replace d12 := d12.1
          subst d12
          clear hd
          clear hnew
          rw [if_pos (by kernel_rfl)]
          simp only [puts, Act.put, List.setIfInBounds_toArray, List.set_cons_zero, List.set_cons_succ] at hK ⊢
          go_simp
          refine (Err_any hr11).mono ?_
          rintro e w' ⟨rfl, rfl⟩
          exact hK _ _ ⟨Kp.refl _ _, id⟩ ⟨rfl, hr11⟩ hg
        refine Each.cons (fun vs W hl => ?_) ?_
        · apply with16 hl
          clear hl vs
          intro v0 v1 v2 v3 v4 v5 v6 v7 v8 v9 v10 v11 v12 v13 v14 v15 hg hnew hd K hK
          have d11 : v11 = Value.bool false ∧ Rd N W rr Z 0 := hd 11 v11 (by kernel_rfl) rfl
          have hr11 := d11.2
          replace d11 := d11.1
          subst d11
          have d13 : v13 = Value.int IntKind.i64 0 ∧ Rd N W rr Z 0 := hd 13 v13 (by kernel_rfl) rfl
          have hr13 := d13.2
          replace d13 := d13.1
          subst d13
          clear hd
          clear hnew
          rw [if_pos (by kernel_rfl)]
          simp only [puts, Act.put, List.setIfInBounds_toArray, List.set_cons_zero, List.set_cons_succ] at hK ⊢
          go_simp
          exact hK _ _ ⟨Kp.refl _ _, id⟩ ⟨(by first | rfl | simp), hr11⟩ hg
        refine Each.cons (fun vs W hl => ?_) ?_
        · apply with16 hl
          clear hl vs
          intro v0 v1 v2 v3 v4 v5 v6 v7 v8 v9 v10 v11 v12 v13 v14 v15 hg hnew hd K hK
          have d11 : v11 = Value.bool false ∧ Rd N W rr Z 0 := hd 11 v11 (by kernel_rfl) rfl
          have hr11 := d11.2
          replace d11 := d11.1
          subst d11
          have d14 : v14 = Value.bool false ∧ Rd N W rr Z 0 := hd 14 v14 (by kernel_rfl) rfl
          have hr14 := d14.2
          replace d14 := d14.1
          subst d14
          clear hd
          clear hnew
          rw [if_pos (by kernel_rfl)]
          simp only [puts, Act.put, List.setIfInBounds_toArray, List.set_cons_zero, List.set_cons_succ] at hK ⊢
          go_simp
          exact hK _ _ ⟨Kp.refl _ _, id⟩ ⟨rfl, hr11⟩ hg
        exact Each.nil
      · intro vs W hl
        apply with16 hl
        clear hl vs
        intro v0 v1 v2 v3 v4 v5 v6 v7 v8 v9 v10 v11 v12 v13 v14 v15 hg hall
        have d0 : v0 = Value.pointer (some ⟨rr, 0, none⟩) := hall 0 v0 rfl
        subst d0
        have d1 : v1 = Value.agg #[Value.int IntKind.i64 k, Value.int IntKind.i64 n, Value.string s] ∧ Rd N W rr Z 0 := hall 1 v1 rfl
        have hr1 := d1.2
        replace d1 := d1.1
        subst d1
        have d2 : v2 = Value.agg #[Value.int IntKind.i64 k, Value.int IntKind.i64 n, Value.string s] := hall 2 v2 rfl
        subst d2
        have d3 : v3 = Value.bool false ∧ Rd N W rr Z 0 := hall 3 v3 rfl
        have hr3 := d3.2
        replace d3 := d3.1
        subst d3
        have d4 : v4 = Value.bool false ∧ Rd N W rr Z 0 := hall 4 v4 rfl
        have hr4 := d4.2
        replace d4 := d4.1
        subst d4
        have d5 : v5 = Value.pointer (some ⟨rr, 0, none⟩) ∧ Rd N W rr Z 0 := hall 5 v5 rfl
        have hr5 := d5.2
        replace d5 := d5.1
        subst d5
        have d6 : v6 = Value.int IntKind.i64 ((z : Nat) : Int) ∧ Rd N W rr Z 0 := hall 6 v6 rfl
        have hr6 := d6.2
        replace d6 := d6.1
        subst d6
        have d7 : v7 = Value.slice a z c ∧ Rd N W rr Z 0 := hall 7 v7 rfl
        have hr7 := d7.2
        replace d7 := d7.1
        subst d7
        have d8 : v8 = Value.int IntKind.i64 ((z : Nat) : Int) ∧ Rd N W rr Z 0 := hall 8 v8 rfl
        have hr8 := d8.2
        replace d8 := d8.1
        subst d8
        have d9 : v9 = Value.bool false ∧ Rd N W rr Z 0 := hall 9 v9 rfl
        have hr9 := d9.2
        replace d9 := d9.1
        subst d9
        have d10 : v10 = Value.bool false ∧ Rd N W rr Z 0 := hall 10 v10 rfl
        have hr10 := d10.2
        replace d10 := d10.1
        subst d10
        have d11 : v11 = Value.bool false ∧ Rd N W rr Z 0 := hall 11 v11 rfl
        have hr11 := d11.2
        replace d11 := d11.1
        subst d11
        have d12 : v12 = Value.pointer (some ⟨rr, 0, none⟩) ∧ Rd N W rr Z 0 := hall 12 v12 rfl
        have hr12 := d12.2
        replace d12 := d12.1
        subst d12
        have d13 : v13 = Value.int IntKind.i64 0 ∧ Rd N W rr Z 0 := hall 13 v13 rfl
        have hr13 := d13.2
        replace d13 := d13.1
        subst d13
        have d14 : v14 = Value.bool false ∧ Rd N W rr Z 0 := hall 14 v14 rfl
        have hr14 := d14.2
        replace d14 := d14.1
        subst d14
        have d15 : v15 = Value.bool false ∧ Rd N W rr Z 0 := hall 15 v15 rfl
        have hr15 := d15.2
        replace d15 := d15.1
        subst d15
        clear hall
        simp only [puts, Act.put, List.setIfInBounds_toArray, List.set_cons_zero, List.set_cons_succ, List.take_succ_cons, List.take_zero, List.drop_succ_cons, List.drop_zero]
        have HKP := hd hg.1
        clear hg
        have Bq := hd (Bc.out.trans (HKP.out.below w.heap.size Bc.out.size (fun j hj e => by have := HGE.out; have := HLE.out; have e2 : j = rr := e; omega)))
        have Uq := hd (Uc.out.keepR HKP.out (fun g hg => by have := HUL.out g hg; have := HLE.out; omega))
        generalize W = wq at *
        go_wp2_with fail
        cases hok2 : okAs xs
        · first
          | exact absurd HET.out (by rw [hok2]; decide)
          | skip
          all_goals
            have h0 : nt = 0 := by rw [← HNT.out, hok2]; rfl
            subst h0
            clear HET HNT hok2
            go_wp2_with fail
            go_ret
            exact VEnd.mk Bq.out
        · first
          | exact absurd HET.out (by rw [hok2]; decide)
          | skip
          all_goals
            have HOK2 := hd hok2
            have U := hd (show Ow w.heap.size wq (.slice at_ nt ct) (listB xs) by have h := Uq.out; rw [hok2] at h; exact h)
            have hnt := HNT.out
            rw [hok2] at hnt
            have HNT2 : Hid ((listB xs).length = nt) := hd hnt
            have HTA := hd (takeAs_back xs HOK2.out HW.out Z)
            have HLB := hd (asB_take_le HOK2.out HW.out xs.length)
            rw [List.take_of_length_le (Nat.le_refl _)] at HLB
            have HBY : Hid (Byt (listB xs)) := hd U.out.1
            have HTL : Hid ((listB xs).length ≤ 1610) := hd (by unfold listB; rw [List.length_append, Num.enc_length]; have := HLB.out; have h3 := Num.sz_bd (xs.length : Int) (by omega); omega)
            clear HLB hnt HET HNT hok2
            generalize listB xs = T at *
            go_wp2_with fail
            have hcp := copy_ow U.out.all U.out.1 (by have := HTL.out; omega)
            skip
            refine hcp.mono ?_
            clear hcp
            rintro e wa ⟨ac, cc, rfl, ho, hk⟩
            have Ba := hd (below_below Bq.out hk)
            obtain ⟨v7, wb, hrun, o7, k7⟩ := append_ow (ty := 25) (ho.lower (B' := w.heap.size) Bq.out.size) (HZ.out.keep Ba.out) HZB.out Ba.out.size (by have := HTL.out; have h1 := HZL.out; have h2 := H47.out; omega)
            have HRN := hd hrun
            have Bb := hd (Ba.out.trans k7)
            obtain ⟨a7, c7, rfl⟩ := o7.len
            have O7 := hd o7
            clear ho hk hrun o7 k7
            generalize hq : (T ++ Z).length = q7 at *
            clear hq
            go_wp2_with (at_builtin; refine wpList_append_run _ rfl _ _ _ _ rfl _ _ rfl rfl _ wb HRN.out ?_)
            refine (New_bx O7.out.all).mono ?_
            rintro e wc ⟨rr, rfl, hle, hr, hk⟩
            have Bc := hd (below_below Bb.out hk)
            have Rc := hd hr
            have HLE := hd hle
            have HGE := hd Bb.out.size
            clear hk hr hle Ba Bb O7 HRN
            generalize wb.heap.size = N at *
            go_wp2_with fail
            have htl := TakeL_is Rc.out HLE.out (HBY.out.append HZB.out)
            rw [HTA.out] at htl
            refine htl.mono ?_
            clear htl
            rintro e wd ⟨v8, rfl, ho, hr, hk⟩
            obtain ⟨x8, c8, hv8⟩ := ho.form
            subst hv8
            have Bd := hd (Bc.out.trans (hk.below w.heap.size Bc.out.size (fun j hj e => by have := HGE.out; have := HLE.out; have e2 : j = rr := e; omega)))
            have Rd_ := hd hr
            have Od := hd ho.el
            clear hk hr ho Rc Bc
            have hxl : (xs, Z, (0 : Int)).1.length = nx := HNX.out
            rw [hxl] at Od ⊢
            clear hxl
            simp only at Rd_
            go_wp2_with fail
            have hsm := same_any (HX.out.keep Bd.out) Od.out
            rw [sameAs_self] at hsm
            refine hsm.mono ?_
            clear hsm
            rintro e we ⟨rfl, hk⟩
            have Be := hd (below_below Bd.out hk)
            have Re := hd (Rd_.out.keep hk)
            clear hk Bd Rd_ Od
            go_wp2_with fail
            refine (Left_ok Re.out).mono ?_
            rintro e wf ⟨rfl, rfl⟩
            rw [HZL.out]
            go_wp2_with fail
            refine (Err_any Re.out).mono ?_
            rintro e wg ⟨rfl, rfl⟩
            have h8 : (nx : Int) ≤ 8 := by have := (okAs_all HOK2.out).1; rw [HNX.out] at this; omega
            go_wp2_with fail
            go_ret
            exact VEnd.mk Be.out

end Go.Proofs.Ytibnjhnecfcimaa
