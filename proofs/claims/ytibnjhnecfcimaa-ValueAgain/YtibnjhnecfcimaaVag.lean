/- ValueAgain: the law's walk. -/
import Derived.Test.YtibnjhnecfcimaaWkv
namespace Go.Proofs.Ytibnjhnecfcimaa
open Go.RowKit
set_option linter.unusedVariables false

theorem Bx.capB {N : Nat} {w : World} {a : Option Addr} {n cap : Nat} {L : List Int} (hb : Bx N w (.slice a n cap) L) : n ≤ cap := by
  rcases hb with ⟨_, _, h3⟩ | ⟨h3, x, c, h4⟩
  · rcases h3 with ⟨h3, _⟩ | ⟨_, _, _, h3, h4, _⟩
    · injection h3 with e1 e2 e3
      omega
    · injection h3 with e1 e2 e3
      rw [e2, e3]; exact h4
  · injection h4 with e1 e2 e3
    omega

set_option maxRecDepth 100000 in
set_option maxHeartbeats 4000000 in
theorem again_walk (w : World) (a : Option Addr) (n cap : Nat) (L : List Int) (hb : Bx w.heap.size w (.slice a n cap) L) (hn : L.length = n) (hl : Byt L) (h47 : n ≤ 140737488351232) :
    Calls Try.prog 6 #[.slice a n cap] w fun e w' => VEnd w (.bool true) e w' := by
  obtain ⟨⟨k, m, s⟩, l1, e1, h1⟩ : ∃ v l e, takeV L 0 = (v, l, e) := ⟨_, _, _, rfl⟩
  obtain ⟨xs, l2, e2, h2⟩ : ∃ v l e, takeAs L 0 = (v, l, e) := ⟨_, _, _, rfl⟩
  have H1 := hd h1
  have H2 := hd h2
  have HL := hd hl
  have HN := hd hn
  have HCAP := hd hb.capB
  have HB0 := hd hb
  have H47 := hd h47
  clear h1 h2 hl hn hb h47
  go_enter Try.func6, Try.ntmps6
  go_wp2_with fail
  refine (works_true w).mono ?_
  rintro e w1 ⟨rfl, hk⟩
  have B1 := hd hk
  have X1 := hd (HB0.out.keep hk)
  clear hk HB0
  go_wp2_with fail
  refine (New_bx X1.out).mono ?_
  rintro e w2 ⟨r1, rfl, hle, hr, hk⟩
  have B2 := hd (below_below B1.out hk)
  have X2 := hd (X1.out.keep hk)
  have R2 := hd hr
  have HLE1 := hd hle
  have HS1 := hd B1.out.size
  clear hk X1 hle hr B1
  generalize w1.heap.size = N1 at *
  go_wp2_with fail
  refine (New_bx X2.out).mono ?_
  rintro e w3 ⟨r2, rfl, hle, hr, hk⟩
  have B3 := hd (below_below B2.out hk)
  have X3 := hd (X2.out.keep hk)
  have R3 := hd (R2.out.keep hk)
  have Q3 := hd hr
  have HLE2 := hd hle
  have HR1 := hd R2.out.lt
  have HS2 := hd B2.out.size
  clear hk X2 hle hr B2 R2
  generalize w2.heap.size = N2 at *
  go_wp2_with fail
  refine (TakeV_is R3.out HLE1.out HL.out).mono ?_
  rw [H1.out]
  rintro e w4 ⟨rfl, hr, hk⟩
  simp only at hr ⊢
  have R4 := hd hr
  have Q4 := hd (Q3.out.keepO hk (Or.inl HR1.out) HLE2.out)
  have X4 := hd (X3.out.keepO hk (by have := HS1.out; have := HLE1.out; omega))
  have B4 := hd (B3.out.trans (hk.below w.heap.size B3.out.size (fun j hj e => by have := HS1.out; have := HLE1.out; have e2 : j = r1 := e; omega)))
  clear hr hk R3 Q3 X3 B3
  go_wp2_with fail
  refine (TakeL_is Q4.out HLE2.out HL.out).mono ?_
  rw [H2.out]
  rintro e w5 ⟨v, rfl, ho, hr, hk⟩
  obtain ⟨x5, c5, hv⟩ := ho.form
  subst hv
  have Q5 := hd hr
  have R5 := hd (R4.out.keepO hk (Or.inr (by have := HR1.out; have := HLE2.out; omega)) HLE1.out)
  have X5 := hd (X4.out.keepO hk (by have := HS2.out; have := HLE2.out; omega))
  have B5 := hd (B4.out.trans (hk.below w.heap.size B4.out.size (fun j hj e => by have := HS2.out; have := HLE2.out; have e2 : j = r2 := e; omega)))
  have O5 := hd (ho.lower (B' := w.heap.size) B4.out.size)
  clear hr hk ho R4 Q4 X4 B4
  obtain ⟨z, hz⟩ : ∃ z, xs.length = z := ⟨_, rfl⟩
  have HZ := hd hz
  have hz' : (xs, l2, e2).1.length = z := hz
  rw [hz']
  clear hz hz'
  go_wp2_with fail
  have NB := below1 w5 (Obj.cells #[Value.int IntKind.i64 k, Value.int IntKind.i64 m, Value.string s] 23)
  have V6 := hd (Bk.new w5 23 #[Value.int IntKind.i64 k, Value.int IntKind.i64 m, Value.string s])
  have Q6 := hd (Q5.out.keep NB)
  have R6 := hd (R5.out.keep NB)
  have X6 := hd (X5.out.keep NB)
  have O6 := hd (O5.out.keep NB)
  have B6 := hd (below_below B5.out NB)
  clear NB Q5 R5 X5 O5 B5
  generalize w5.alloc (Obj.cells #[Value.int IntKind.i64 k, Value.int IntKind.i64 m, Value.string s] 23) = w6 at *
  generalize w5.heap.size = gv at *
  refine (Err_any R6.out).mono ?_
  rintro e w7 ⟨rfl, rfl⟩
  by_cases he1 : e1 = 0
  · subst he1
    have t1 := takeV_was HL.out H1.out
    have HVB := hd (vbytes_ok k m s w7 t1.1)
    have HVL : Hid (Num.enc k ++ contB (k, m, s) = valB (k, m, s)) := hd rfl
    rw [HVL.out] at HVB
    have HE1 : Hid ((valB (k, m, s)).length + l1.length = L.length) := hd (by rw [t1.2, List.length_append])
    have HTK1 : Hid (L.take (valB (k, m, s)).length = valB (k, m, s)) := hd (by rw [t1.2, List.take_left])
    clear t1 HVL
    generalize valB (k, m, s) = T1 at *
    obtain ⟨n1, hnt⟩ : ∃ q, T1.length = q := ⟨_, rfl⟩
    rw [hnt] at HE1 HTK1
    have HNT1 := hd hnt
    clear hnt
    obtain ⟨q1, hq1⟩ : ∃ q, l1.length = q := ⟨_, rfl⟩
    have hI1 : (n1 : Int) + (q1 : Int) = (n : Int) := by have h := HE1.out; have h3 := HN.out; rw [← hq1]; omega
    have hw1 : IntKind.i64.wrap ((n1 : Int) + (q1 : Int)) = (n : Int) := by rw [hI1]; exact wraps_i64' _ (by omega) (by have := H47.out; omega)
    have hkc1 : (n1 : Int) ≤ (cap : Int) := by have := HCAP.out; omega
    have hcb1 : (n : Int) ≤ (cap : Int) := by have := HCAP.out; omega
    have hpn1 : n1 ≤ n := by omega
    have HP1 := hd hpn1
    have HQ1 := hd hq1
    clear hpn1 hq1 hI1
    have c0 := V6.out.cell 0
    have c1 := V6.out.cell 1
    have c2 := V6.out.cell 2
    simp at c0 c1 c2
    go_wp2_with fail
    refine (HVB.out).mono ?_
    rintro e wd ⟨av, cv, rfl, ho, hk⟩
    rw [HNT1.out] at ho ⊢
    have B9 := hd (below_below B6.out hk)
    have Q9 := hd (Q6.out.keep hk)
    have R9 := hd (R6.out.keep hk)
    have X9 := hd (X6.out.keep hk)
    have O9 := hd (O6.out.keep hk)
    have Y9 := hd ho
    clear hk ho HVB B6 Q6 R6 X6 O6 V6 c0 c1 c2
    go_wp2_with fail
    refine (Left_ok R9.out).mono ?_
    rintro e we ⟨rfl, rfl⟩
    rw [HQ1.out]
    go_wp2_with fail
    refine (eq_vx (l := T1) Y9.out.bs (by have h := X9.out.front HN.out HP1.out; rw [HTK1.out] at h; exact h)).mono ?_
    rintro e wf ⟨rfl, hk⟩
    have B10 := hd (below_below B9.out hk)
    have Q10 := hd (Q9.out.keep hk)
    have X10 := hd (X9.out.keep hk)
    have O10 := hd (O9.out.keep hk)
    clear hk Y9 X9 R9 O9 Q9 B9 HE1 HTK1 HNT1 HP1 HQ1 hw1 hkc1 hcb1
    go_wp2_with fail
    refine (Err_any Q10.out).mono ?_
    rintro e w21 ⟨rfl, rfl⟩
    by_cases he2 : e2 = 0
    · subst he2
      have t2 := takeAs_was HL.out H2.out
      have HA := hd (attrs_ok O10.out.el t2.1 t2.2.1)
      have HE2 : Hid ((listB xs).length + l2.length = L.length) := hd (by rw [t2.2.2, List.length_append])
      have HTK : Hid (L.take (listB xs).length = listB xs) := hd (by rw [t2.2.2, List.take_left])
      clear t2
      rw [HZ.out] at HA
      generalize listB xs = T at *
      obtain ⟨nt, hnt⟩ : ∃ q, T.length = q := ⟨_, rfl⟩
      rw [hnt] at HE2 HTK
      have HNT := hd hnt
      clear hnt
      obtain ⟨q2, hq2⟩ : ∃ q, l2.length = q := ⟨_, rfl⟩
      have hI2 : (nt : Int) + (q2 : Int) = (n : Int) := by have h := HE2.out; have h3 := HN.out; rw [← hq2]; omega
      have hw2 : IntKind.i64.wrap ((nt : Int) + (q2 : Int)) = (n : Int) := by rw [hI2]; exact wraps_i64' _ (by omega) (by have := H47.out; omega)
      have hkc2 : (nt : Int) ≤ (cap : Int) := by have := HCAP.out; omega
      have hcb2 : (n : Int) ≤ (cap : Int) := by have := HCAP.out; omega
      have hpn2 : nt ≤ n := by omega
      have HP2 := hd hpn2
      have HQ2 := hd hq2
      clear hpn2 hq2 hI2
      go_wp2_with fail
      refine (HA.out).mono ?_
      rintro e wa ⟨at_, ct, rfl, ho, hk⟩
      rw [HNT.out] at ho ⊢
      have B7 := hd (below_below B10.out hk)
      have Q7 := hd (Q10.out.keep hk)
      have X7 := hd (X10.out.keep hk)
      have Y7 := hd ho
      clear hk ho HA
      go_wp2_with fail
      refine (Left_ok Q7.out).mono ?_
      rintro e wb ⟨rfl, rfl⟩
      rw [HQ2.out]
      go_wp2_with fail
      refine (eq_vx (l := T) Y7.out.bs (by have h := X7.out.front HN.out HP2.out; rw [HTK.out] at h; exact h)).mono ?_
      rintro e wc ⟨rfl, hk⟩
      have B8 := hd (below_below B7.out hk)
      clear hk
      go_wp2_with fail
      go_ret
      exact VEnd.mk B8.out
    · have hx : xs = [] := takeAs_bad H2.out he2
      have hz0 : z = 0 := by rw [← HZ.out, hx]; rfl
      subst hz0
      have hne : (e2 != 0) = true := by rw [bne_iff_ne]; exact he2
      go_wp2_with fail
      go_ret
      exact VEnd.mk B10.out
  · have hv := takeV_bad H1.out he1
    have hv0 : k = 0 ∧ m = 0 ∧ s = ⟨#[]⟩ := by simpa [valZ] using hv
    obtain ⟨hk0, hm0, hs0⟩ := hv0
    have hne : (e1 == 0) = false := by rw [beq_eq_false_iff_ne]; exact he1
    have c0 := V6.out.cell 0
    have c1 := V6.out.cell 1
    have c2 := V6.out.cell 2
    simp at c0 c1 c2
    rw [hk0] at c0
    rw [hm0] at c1
    rw [hs0] at c2
    clear hv hk0 hm0 hs0
    go_wp2_with fail
    refine (Err_any Q6.out).mono ?_
    rintro e w31 ⟨rfl, rfl⟩
    by_cases he2 : e2 = 0
    · subst he2
      have t2 := takeAs_was HL.out H2.out
      have HA := hd (attrs_ok O6.out.el t2.1 t2.2.1)
      have HE2 : Hid ((listB xs).length + l2.length = L.length) := hd (by rw [t2.2.2, List.length_append])
      have HTK : Hid (L.take (listB xs).length = listB xs) := hd (by rw [t2.2.2, List.take_left])
      clear t2
      rw [HZ.out] at HA
      generalize listB xs = T at *
      obtain ⟨nt, hnt⟩ : ∃ q, T.length = q := ⟨_, rfl⟩
      rw [hnt] at HE2 HTK
      have HNT := hd hnt
      clear hnt
      obtain ⟨q2, hq2⟩ : ∃ q, l2.length = q := ⟨_, rfl⟩
      have hI2 : (nt : Int) + (q2 : Int) = (n : Int) := by have h := HE2.out; have h3 := HN.out; rw [← hq2]; omega
      have hw2 : IntKind.i64.wrap ((nt : Int) + (q2 : Int)) = (n : Int) := by rw [hI2]; exact wraps_i64' _ (by omega) (by have := H47.out; omega)
      have hkc2 : (nt : Int) ≤ (cap : Int) := by have := HCAP.out; omega
      have hcb2 : (n : Int) ≤ (cap : Int) := by have := HCAP.out; omega
      have hpn2 : nt ≤ n := by omega
      have HP2 := hd hpn2
      have HQ2 := hd hq2
      clear hpn2 hq2 hI2
      go_wp2_with fail
      refine (HA.out).mono ?_
      rintro e wa ⟨at_, ct, rfl, ho, hk⟩
      rw [HNT.out] at ho ⊢
      have B7 := hd (below_below B6.out hk)
      have Q7 := hd (Q6.out.keep hk)
      have X7 := hd (X6.out.keep hk)
      have Y7 := hd ho
      clear hk ho HA
      go_wp2_with fail
      refine (Left_ok Q7.out).mono ?_
      rintro e wb ⟨rfl, rfl⟩
      rw [HQ2.out]
      go_wp2_with fail
      refine (eq_vx (l := T) Y7.out.bs (by have h := X7.out.front HN.out HP2.out; rw [HTK.out] at h; exact h)).mono ?_
      rintro e wc ⟨rfl, hk⟩
      have B8 := hd (below_below B7.out hk)
      clear hk
      go_wp2_with fail
      go_ret
      exact VEnd.mk B8.out
    · have hx : xs = [] := takeAs_bad H2.out he2
      have hz0 : z = 0 := by rw [← HZ.out, hx]; rfl
      subst hz0
      have hne : (e2 != 0) = true := by rw [bne_iff_ne]; exact he2
      go_wp2_with fail
      go_ret
      exact VEnd.mk B6.out

end Go.Proofs.Ytibnjhnecfcimaa
