/- The list that is read, the document's. -/
import Derived.Test.YteifaipbckhoiaaTkl
import Derived.Test.YteifaipbckhoiaaMh
namespace Go.Proofs.Yteifaipbckhoiaa
open Go.RowKit
variable {RB XB : Nat}
set_option linter.unusedVariables false

theorem Rx.far {w w' : World} {xb B : Nat} {l : List Int} {e : Int} (h : Rx XB w xb l e) (k : Below B w w') (hb : xb < B) : Rx XB w' xb l e := by
  obtain ⟨h0, ⟨v, h2, h3⟩, h4, h5, h6⟩ := h
  exact ⟨Nat.lt_of_lt_of_le h0 k.size, ⟨v, (below_cell k (p := ⟨xb, 0, none⟩) hb).trans h2, h3.keep (S := fun b => B ≤ b) ⟨k.os, k.tape, k.output, k.size, fun i hi hn => k.block i (by omega)⟩ (fun b _ hbb hb2 => by have h' : B ≤ b := hb2; omega)⟩, (below_cell k (p := ⟨xb, 1, none⟩) hb).trans h4, (below_frozen k (p := ⟨xb, 0, none⟩) hb).trans h5, (below_frozen k (p := ⟨xb, 1, none⟩) hb).trans h6⟩
theorem xr_byt {n : Int} {l : List Int} (e : Int) (hl : Byt l) : Byt (xRaw n l e).2.1 := by
  unfold xRaw
  repeat' split
  · exact hl
  · exact hl
  · exact hl
  · exact hl.drop _
theorem xs_byt {most : Int} {l : List Int} (e : Int) (hl : Byt l) : Byt (xStep most l e).2.1 := x_byt (n := (xStep most l e).1) (e' := (xStep most l e).2.2) hl rfl
theorem xt_byt {most : Int} {l : List Int} (e : Int) (hl : Byt l) : Byt (xText most l e).2.1 := by
  unfold xText
  repeat' split
  · exact xs_byt e hl
  · exact xs_byt e hl
  · exact xr_byt 0 (xs_byt e hl)
theorem xv_byt {l : List Int} (e : Int) (hl : Byt l) : Byt (xTakeV l e).2.1 := by
  unfold xTakeV xTakeQ
  simp only
  have h1 := xs_byt (most := 9007199254740991) e hl
  unfold xPart
  repeat' split
  · exact xs_byt _ h1
  · exact xt_byt _ h1
  · exact xs_byt _ h1
  · exact h1
theorem xl_byt {l : List Int} (e : Int) (hl : Byt l) : Byt (xTakeL l e).2.2.1 := by
  unfold xTakeL
  simp only
  exact xs_byt _ (xs_byt e hl)
theorem xa_byt {l : List Int} (e : Int) (hl : Byt l) : Byt (xTakeA l e).2.1 := by
  unfold xTakeA
  simp only
  exact xv_byt _ (xl_byt _ (xt_byt e hl))
theorem xTakeN_err (n : Nat) (l : List Int) {e : Int} (h : e ≠ 0) : xTakeN n l e = ([], l, e) := by
  cases n with
  | zero => rfl
  | succ n => unfold xTakeN; rw [if_pos h]
theorem xTakeN_succ (n : Nat) (l : List Int) : xTakeN (n + 1) l 0 = ((xTakeA l 0).1 :: (xTakeN n (xTakeA l 0).2.1 (xTakeA l 0).2.2).1, (xTakeN n (xTakeA l 0).2.1 (xTakeA l 0).2.2).2) := by
  show (if (0 : Int) ≠ 0 then _ else _) = _
  rw [if_neg (by simp)]

/-- How a list's taking ends. -/
def TakLX (XB : Nat) (w : World) (xb : Nat) (r : List AttrD × List Int × Int) (e : Ending) (w' : World) : Prop :=
  ∃ v, e = .returned v ∧ OwA w.heap.size w' v r.1 ∧ Rx XB w' xb r.2.1 r.2.2 ∧ Kp (fun b => b = xb) w w'

set_option maxRecDepth 100000 in
set_option maxHeartbeats 8000000 in
theorem TakeLX_is {w : World} {xb : Nat} {l : List Int} {e0 : Int} (h : Rx XB w xb l e0) (hle : XB ≤ xb) (hl : Byt l) :
    Calls Try.prog 46 #[.pointer (some ⟨xb, 0, none⟩)] w fun e w' => TakLX XB w xb (xTakeAs l e0) e w' := by
  obtain ⟨r, hr⟩ : ∃ r, xTakeAs l e0 = r := ⟨_, rfl⟩
  obtain ⟨c, l1, e1, h1⟩ : ∃ c l1 e1, xStep 9007199254740991 l e0 = (c, l1, e1) := ⟨_, _, _, rfl⟩
  rw [hr]
  unfold xTakeAs at hr
  rw [h1] at hr
  simp only at hr
  have hb1 := x_byt hl h1
  have hrg := (x_rng (by decide) hl h1).1
  have HZ : Hid (e1 ≠ 0 → c = 0) := hd (xerr_zero h1)
  have HR := hd hr; have H := hd h; have H1 := hd h1; have HLE := hd hle; have HB1 := hd hb1; have HRG := hd hrg
  have HRB := hd h.lt
  clear hr h h1 hle hl hb1 hrg
  go_enter Try.func46, Try.ntmps46
  go_wp2_with fail
  refine (UX_is H.out H1.out).mono ?_
  rintro e w2 ⟨rfl, hr2, hk2⟩
  have R2 := hd hr2
  have K2 := hd hk2
  clear hr2 hk2 H
  by_cases h8 : 8 < c
  · have hn : ¬ c = 0 := by omega
    by_cases he1 : e1 = 0
    · have HR2 : Hid (r = ([], l1, 4)) := hd (by rw [← HR.out, if_neg (by simpa using he1), if_pos h8])
      rw [he1] at R2
      go_wp2_with fail
      refine (FailX_new R2.out 4).mono ?_
      rintro e w3 ⟨rfl, rfl⟩
      have R3 := hd (R2.out.setE 4)
      have K3 := hd (K2.out.trans (kp_one w2 xb 1 (.int .i64 4)))
      clear R2 K2
      generalize w2.setCell ⟨xb, 1, none⟩ (.int .i64 4) = w3 at *
      have h0c : 0 < c := by omega
      have er := R3.out.err
      go_wp2_with fail
      refine wp_loop_rounds 1 ?_
      rw [rounds_succ]
      go_wp2_with fail
      refine (rlistMay_any (xs := []) (Or.inl ⟨rfl, none, 0, rfl⟩)).mono ?_
      rintro e w4 ⟨rfl, hk4⟩
      have R4 := hd (R3.out.keepB hk4)
      have K4 := hd (K3.out.trans (kpB hk4 (fun b => b = xb)))
      rw [show okAs [] = true from rfl]
      clear hk4 er R3 K3
      have er := R4.out.err
      go_wp2_with fail
      go_ret
      refine ⟨_, rfl, ?_, ?_, K4.out⟩
      · rw [HR2.out]; exact OwA.nil _ _
      · rw [HR2.out]; exact R4.out
    · exact absurd (HZ.out he1) hn
  have h8' : ¬ 8 < c := h8
  have HT : Hid (r = (if failE (okAs (xTakeN c.toNat l1 e1).1) (xTakeN c.toNat l1 e1).2.2 ≠ 0 then [] else (xTakeN c.toNat l1 e1).1, (xTakeN c.toNat l1 e1).2.1, failE (okAs (xTakeN c.toNat l1 e1).1) (xTakeN c.toNat l1 e1).2.2)) := hd (by
    rw [← HR.out]
    by_cases he1 : e1 ≠ 0
    · rw [if_pos he1, xTakeN_err _ _ he1]
      simp only
      rw [show okAs [] = true from rfl, failE_t, if_pos he1]
    · rw [if_neg he1, if_neg h8]
      have : e1 = 0 := by simpa using he1
      rw [this])
  clear HR h8 HZ
  obtain ⟨n, hn⟩ : ∃ n : Nat, c = (n : Int) := ⟨c.toNat, by have := HRG.out; omega⟩
  subst hn
  rw [Int.toNat_natCast] at HT
  have hn8 : n ≤ 8 := by omega
  have HN8 := hd hn8
  have h8i : ¬ (8 : Int) < (n : Int) := by omega
  clear h8' hn8
  go_wp2_with fail
  go_loopw [4, 5] (fun o i wr => ∃ (k : Nat) (ys : List AttrD) (lk : List Int) (ek : Int), i = .int .i64 (k : Int) ∧ ys.length = k ∧ OwA w.heap.size wr o ys ∧ k ≤ n ∧ Byt lk ∧ Rx XB wr xb lk ek ∧ Kp (fun b => b = xb) w wr ∧ xTakeN n l1 e1 = (ys ++ (xTakeN (n - k) lk ek).1, (xTakeN (n - k) lk ek).2)) (fun _ i _ => n - (intOf i).toNat)
  case atStart => exact ⟨0, [], l1, e1, rfl, rfl, OwA.nil _ _, Nat.zero_le _, HB1.out, R2.out, K2.out, rfl⟩
  case round =>
    obtain ⟨k, ys, lk, ek, rfl, hk, ho, hy, hbk, hrk, hkk, ht⟩ := hrel
    obtain ⟨x0, cap, hv⟩ := ho.form
    rw [hk] at hv
    subst hv
    have HO := hd ho; have HBK := hd hbk; have HRK := hd hrk; have HKK := hd hkk; have HTK := hd ht; have HK := hd hk
    clear ho hbk hrk hkk ht R2 K2 hk
    have er := HRK.out.err
    by_cases hlt : k < n
    · have hlz : (k : Int) < (n : Int) := by omega
      by_cases hek : ek = 0
      · subst hek
        go_wp2_with fail
        obtain ⟨bs, j1, f1, q1⟩ : ∃ bs l e, xText 24 lk 0 = (bs, l, e) := ⟨_, _, _, rfl⟩
        obtain ⟨x, p, j2, f2, q2⟩ : ∃ x p l e, xTakeL j1 f1 = (x, p, l, e) := ⟨_, _, _, _, rfl⟩
        obtain ⟨⟨kk, m, b⟩, j3, f3, q3⟩ : ∃ v l e, xTakeV j2 f2 = (v, l, e) := ⟨_, _, _, rfl⟩
        have qa : xTakeA lk 0 = ((strOfNums bs, x, p, kk, m, b), j3, f3) := by
          unfold xTakeA
          rw [q1]
          simp only
          rw [q2]
          simp only
          rw [q3]
        have y1 : Byt j1 := by have := xt_byt (most := 24) 0 HBK.out; rw [q1] at this; exact this
        have y2 : Byt j2 := by have := xl_byt f1 y1; rw [q2] at this; exact this
        have HB3 : Hid (Byt j3) := hd (by have := xv_byt f2 y2; rw [q3] at this; exact this)
        have HT2 : Hid (xTakeN n l1 e1 = ((ys ++ [(strOfNums bs, x, p, kk, m, b)]) ++ (xTakeN (n - (k + 1)) j3 f3).1, (xTakeN (n - (k + 1)) j3 f3).2)) := hd (by
          have h4 := HTK.out
          rw [show n - k = (n - (k + 1)) + 1 by omega, xTakeN_succ, qa] at h4
          rw [h4, List.append_assoc]
          rfl)
        obtain ⟨s, hbs⟩ : ∃ s, strOfNums bs = s := ⟨_, rfl⟩
        rw [hbs] at HT2
        refine (textX_any HRK.out 24).mono ?_
        rw [q1]
        rintro e w4 ⟨rfl, hr4, hk4⟩
        simp only at hr4 ⊢
        have O4 := hd (HO.out.kp hk4 HRB.out)
        have R4 := hd hr4
        have K4 := hd (HKK.out.trans hk4)
        rw [hbs]
        clear hr4 hk4 HO HRK HKK HTK er q1
        go_wp2_with fail
        obtain ⟨n1, u1, g1, t1⟩ : ∃ n l e, xStep 9007199254740991 j1 f1 = (n, l, e) := ⟨_, _, _, rfl⟩
        obtain ⟨n2, u2, g2, t2⟩ : ∃ n l e, xStep 9007199254740991 u1 g1 = (n, l, e) := ⟨_, _, _, rfl⟩
        have ht : tkLab n1 n2 [] g2 = (x, p, (tkLab n1 n2 [] g2).2.2.1, f2) ∧ u2 = j2 := by
          have := q2
          unfold xTakeL at this
          rw [t1] at this
          simp only at this
          rw [t2] at this
          simp only [Prod.mk.injEq] at this
          obtain ⟨a1, a2, a3, a4⟩ := this
          refine ⟨?_, a3⟩
          rw [← a1, ← a2, ← a4]
        have hn2 := (x_rng (by decide) (x_byt y1 t1) t2).1
        refine (LabX_is (lu := []) R4.out HLE.out hn2 t1 t2).mono ?_
        rw [ht.1, ht.2]
        rintro e w5 ⟨rfl, hr5, hk5⟩
        simp only at hr5 ⊢
        have O5 := hd (O4.out.kp hk5 HRB.out)
        have R5 := hd hr5
        have K5 := hd (K4.out.trans hk5)
        clear hr5 hk5 O4 R4 K4 ht hn2 t1 t2 q2
        go_wp2_with fail
        refine (TakeVX_is R5.out HLE.out y2).mono ?_
        rw [q3]
        rintro e w6 ⟨rfl, hr6, hk6⟩
        simp only at hr6 ⊢
        have O6 := hd (O5.out.kp hk6 HRB.out)
        have R6 := hd hr6
        have K6 := hd (K5.out.trans hk6)
        clear hr6 hk6 O5 R5 K5 q3 y1 y2
        have NB := below1 w6 (Obj.cells #[Value.string s, Value.int IntKind.i64 x, Value.int IntKind.u32 p, Value.int IntKind.i64 kk, Value.int IntKind.i64 m, Value.string b] 54)
        have V7 := Bk.new w6 54 #[Value.string s, Value.int IntKind.i64 x, Value.int IntKind.u32 p, Value.int IntKind.i64 kk, Value.int IntKind.i64 m, Value.string b]
        have O7 := O6.out.keep NB
        have R7 := R6.out.keepB NB
        have K7 := K6.out.trans (kpB NB (fun b => b = xb))
        obtain ⟨v8, w8, hr8, o8, k8⟩ := O7.app (a := (s, x, p, kk, m, b)) V7 K7.size (by have := HK.out; have := HN8.out; omega) 31
        obtain ⟨x8, cap8, hv8⟩ := o8.form
        subst hv8
        rw [List.length_append, HK.out] at hr8
        have HR8 := hd hr8
        have O8 := hd o8
        have R8 := hd (R7.far k8 HRB.out)
        have K8 := hd (K7.far k8)
        rw [List.length_append, HK.out] at O8
        clear NB V7 O7 R7 K7 hr8 o8 k8 O6 R6 K6 qa
        go_wp2_with (at_builtin; refine wpList_append_run _ rfl _ _ _ _ rfl _ _ rfl rfl _ w8 HR8.out ?_)
        go_roundw
        case rel => exact ⟨k + 1, ys ++ [(s, x, p, kk, m, b)], j3, f3, by go_num, by rw [List.length_append, HK.out]; rfl, O8.out, by omega, HB3.out, R8.out, K8.out, HT2.out⟩
        case measure => simp [intOf]; omega
      · have hne : (ek == 0) = false := by rw [beq_eq_false_iff_ne]; exact hek
        have hne2 : (ek != 0) = true := by rw [bne_iff_ne]; exact hek
        have HEK := hd hek
        have ht := HT.out
        rw [HTK.out, xTakeN_err _ _ HEK.out, List.append_nil] at ht
        have HT3 := hd ht
        clear ht
        go_wp2_with fail
        refine (rlistMay_any HO.out.el).mono ?_
        rintro e w4 ⟨rfl, hk4⟩
        have R4 := hd (HRK.out.keepB hk4)
        have K4 := hd (HKK.out.trans (kpB hk4 (fun b => b = xb)))
        clear hk4 er HRK HKK
        have er := R4.out.err
        have hr : r = ([], lk, ek) := by
          rw [HT3.out]
          try simp only
          cases okAs ys
          · rw [failE_f HEK.out, if_pos HEK.out]
          · rw [failE_t, if_pos HEK.out]
        have HR5 := hd hr
        clear hr
        cases hok : okAs ys
        · go_wp2_with fail
          refine (FailX_old R4.out HEK.out 4).mono ?_
          rintro e w5 ⟨rfl, rfl⟩
          go_wp2_with fail
          go_ret
          refine ⟨_, rfl, ?_, ?_, K4.out⟩
          · rw [HR5.out]; exact OwA.nil _ _
          · rw [HR5.out]; exact R4.out
        · go_wp2_with fail
          go_ret
          refine ⟨_, rfl, ?_, ?_, K4.out⟩
          · rw [HR5.out]; exact OwA.nil _ _
          · rw [HR5.out]; exact R4.out
    · have hnl : ¬ (k : Int) < (n : Int) := by omega
      have hkn : k = n := by omega
      have hz : xTakeN (n - k) lk ek = ([], lk, ek) := by rw [hkn, Nat.sub_self]; rfl
      have ht := HT.out
      rw [HTK.out, hz, List.append_nil] at ht
      simp only at ht
      have HT3 := hd ht
      clear hz ht hkn
      go_wp2_with fail
      refine (rlistMay_any HO.out.el).mono ?_
      rintro e w4 ⟨rfl, hk4⟩
      have R4 := hd (HRK.out.keepB hk4)
      have K4 := hd (HKK.out.trans (kpB hk4 (fun b => b = xb)))
      have O4 := hd (HO.out.keep hk4)
      clear hk4 er HRK HKK HO
      have er := R4.out.err
      cases hok : okAs ys
      · have ht := HT3.out
        rw [hok] at ht
        have HR5 := hd ht
        clear ht HT3 hok
        by_cases hek : ek = 0
        · subst hek
          go_wp2_with fail
          refine (FailX_new R4.out 4).mono ?_
          rintro e w5 ⟨rfl, rfl⟩
          have R5 := hd (R4.out.setE 4)
          have K5 := hd (K4.out.trans (kp_one w4 xb 1 (.int .i64 4)))
          clear R4 K4 er
          generalize w4.setCell ⟨xb, 1, none⟩ (.int .i64 4) = w5 at *
          have er := R5.out.err
          go_wp2_with fail
          go_ret
          have hr := HR5.out
          rw [failE_z, if_pos (by decide)] at hr
          refine ⟨_, rfl, ?_, ?_, K5.out⟩
          · rw [hr]; exact OwA.nil _ _
          · rw [hr]; exact R5.out
        · have hne : (ek == 0) = false := by rw [beq_eq_false_iff_ne]; exact hek
          have hne2 : (ek != 0) = true := by rw [bne_iff_ne]; exact hek
          have HEK := hd hek
          go_wp2_with fail
          refine (FailX_old R4.out HEK.out 4).mono ?_
          rintro e w5 ⟨rfl, rfl⟩
          go_wp2_with fail
          go_ret
          have hr := HR5.out
          rw [failE_f HEK.out, if_pos HEK.out] at hr
          refine ⟨_, rfl, ?_, ?_, K4.out⟩
          · rw [hr]; exact OwA.nil _ _
          · rw [hr]; exact R4.out
      · have ht := HT3.out
        rw [hok, failE_t] at ht
        have HR5 := hd ht
        clear ht HT3 hok
        by_cases hek : ek = 0
        · subst hek
          go_wp2_with fail
          go_ret
          have hr := HR5.out
          rw [if_neg (by simp)] at hr
          refine ⟨_, rfl, ?_, ?_, K4.out⟩
          · rw [hr]
            exact O4.out
          · rw [hr]; exact R4.out
        · have hne2 : (ek != 0) = true := by rw [bne_iff_ne]; exact hek
          have HEK := hd hek
          go_wp2_with fail
          go_ret
          have hr := HR5.out
          rw [if_pos HEK.out] at hr
          refine ⟨_, rfl, ?_, ?_, K4.out⟩
          · rw [hr]; exact OwA.nil _ _
          · rw [hr]; exact R4.out

end Go.Proofs.Yteifaipbckhoiaa
