/- TallyPieces: whatever the three pieces: the law answers true, what is handed in reads as before; no conditions. -/
import Derived.Test.YtdhgdgcblgdefaaIn
import Derived.Test.YtdhgdgcblgdefaaRows
import Derived.ProofKit
import Derived.OpenShut
import Derived.ShutString
import Derived.ChangeOld
import Derived.SizedLaws
namespace Go.Proofs.Ytdhgdgcblgdefaa.tallyPieces
open Go.ChangeShapes Go.WideShapes Go.ChangeAt Go.RowKit
open Go.ChangeMaps (open_string shut_string)
set_option linter.unusedVariables false

set_option maxRecDepth 100000 in
set_option maxHeartbeats 8000000 in
theorem walk0 (a : Option Addr) (la ca ma : Nat) (xa : List Int) (b : Option Addr) (lb cb mb : Nat) (xb : List Int) (c : Option Addr) (lc cc mc : Nat) (xc : List Int) (w : World)
    (hca : la ≤ ca) (hcb : lb ≤ cb) (hcc : lc ≤ cc)
    (hma : (5000 < la ∧ ma = 5000) ∨ (la ≤ 5000 ∧ ma = la)) (hmb : (5000 < lb ∧ mb = 5000) ∨ (lb ≤ 5000 ∧ mb = lb)) (hmc : (5000 < lc ∧ mc = 5000) ∨ (lc ≤ 5000 ∧ mc = lc))
    (hxa : Bx w (.slice a ma ca) xa) (hxb : Bx w (.slice b mb cb) xb) (hxc : Bx w (.slice c mc cc) xc) (hla : xa.length = ma) (hlb : xb.length = mb) (hlc : xc.length = mc) (hya : Byt xa) (hyb : Byt xb) (hyc : Byt xc) :
    Calls Try.prog 4 #[.slice a la ca, .slice b lb cb, .slice c lc cc] w fun e w' => TrueEnd w e w' := by
  have hca' : (la : Int) ≤ (ca : Int) := by omega
  have hcb' : (lb : Int) ≤ (cb : Int) := by omega
  have hcc' : (lc : Int) ≤ (cc : Int) := by omega
  have XA := hd hxa
  have XB := hd hxb
  have XC := hd hxc
  have LA := hd hla
  have LB := hd hlb
  have LC := hd hlc
  have YA := hd hya
  have YB := hd hyb
  have YC := hd hyc
  have ZA : Hid (ma ≤ 5000) := by show ma ≤ 5000; omega
  have ZB : Hid (mb ≤ 5000) := by show mb ≤ 5000; omega
  have ZC : Hid (mc ≤ 5000) := by show mc ≤ 5000; omega
  clear hxa hxb hxc hla hlb hlc hya hyb hyc
  rcases hma with ⟨hma, rfl⟩ | ⟨hma, rfl⟩ <;> rcases hmb with ⟨hmb, rfl⟩ | ⟨hmb, rfl⟩ <;> rcases hmc with ⟨hmc, rfl⟩ | ⟨hmc, rfl⟩
  all_goals
    have hma' : _ := Int.ofNat_le.2 hma
    have hmb' : _ := Int.ofNat_le.2 hmb
    have hmc' : _ := Int.ofNat_le.2 hmc
    go_enter Try.func4, Try.ntmps4
    go_wp2_with fail
    refine (works_true _).mono ?_
    rintro e w0 ⟨rfl, hk⟩
    have B0 := hd hk
    clear hk
    go_wp2_with fail
    go_quiet (fail)
    have B0' := hd (below_drewN B0.out nq)
    clear B0
    go_wp2_with fail
    refine (copyB (XA.out.keep B0'.out) YA.out _ LA.out (by have := ZA.out; omega)).mono ?_
    rintro e w1 ⟨ai, ci, rfl, ho, hk⟩
    have O1 := hd ho
    have B1 := hd (below_below B0'.out hk)
    have N1 := hd hk.size
    have N0 := hd B0'.out.size
    clear ho hk B0'
    obtain ⟨v2, w2, hr2, ho2, hb2⟩ := append_ow O1.out (XB.out.keep B1.out) YB.out N1.out (by have h1 := LA.out; have h2 := LB.out; have h3 := ZA.out; have h4 := ZB.out; omega) 23
    have R2 := hd hr2
    have O2 := hd ho2
    have B2 := hd (B1.out.trans (hb2.mono N0.out))
    have N2 := hd (Nat.le_trans N1.out hb2.size)
    clear hr2 ho2 hb2 O1 B1
    obtain ⟨v3, w3, hr3, ho3, hb3⟩ := append_ow O2.out (XC.out.keep B2.out) YC.out N2.out (by have h1 := LA.out; have h2 := LB.out; have h3 := ZA.out; have h4 := ZB.out; have h5 := LC.out; have h6 := ZC.out; rw [List.length_append]; omega) 23
    have R3 := hd hr3
    have O3 := hd ho3.bx
    have B3 := hd (B2.out.trans (hb3.mono N0.out))
    clear hr3 ho3 hb3 O2 B2 N1 N2
    go_wp2_with (at_builtin; first | refine wpList_append_run _ rfl _ _ _ _ rfl _ _ rfl rfl v2 w2 R2.out ?_ | refine wpList_append_run _ rfl _ _ _ _ rfl _ _ rfl rfl v3 w3 R3.out ?_)
    refine (of_any (XA.out.keep B3.out)).mono ?_
    rintro e w4 ⟨rfl, hk⟩
    have O4 := hd (O3.out.keep hk)
    have B4 := hd (below_below B3.out hk)
    clear hk O3 B3 R2 R3
    go_wp2_with fail
    refine (on_any _ (XB.out.keep B4.out)).mono ?_
    rintro e w5 ⟨rfl, hk⟩
    have O5 := hd (O4.out.keep hk)
    have B5 := hd (below_below B4.out hk)
    clear hk O4 B4
    go_wp2_with fail
    refine (on_any _ (XC.out.keep B5.out)).mono ?_
    rintro e w6 ⟨rfl, hk⟩
    have O6 := hd (O5.out.keep hk)
    have B6 := hd (below_below B5.out hk)
    clear hk O5 B5
    go_wp2_with fail
    refine (of_any O6.out).mono ?_
    rintro e w7 ⟨rfl, hk⟩
    have B7 := hd (below_below B6.out hk)
    clear hk O6 B6
    rw [Crc.on_append, Crc.on_append]
    go_wp2_with fail
    refine (of_any (XA.out.keep B7.out)).mono ?_
    rintro e w8 ⟨rfl, hk⟩
    have B8 := hd (below_below B7.out hk)
    clear hk B7
    go_wp2_with fail
    refine (on_nil _ _ _ _).mono ?_
    rintro e w9 ⟨rfl, hk⟩
    have B9 := hd (below_below B8.out hk)
    clear hk B8
    go_wp2_with fail
    refine (of_any (XA.out.keep B9.out)).mono ?_
    rintro e w10 ⟨rfl, hk⟩
    have B10 := hd (below_below B9.out hk)
    clear hk B9
    go_wp2_with fail
    go_ret
    exact ⟨rfl, B10.out⟩

theorem cut (len : Nat) : ∃ m, ((5000 < len ∧ m = 5000) ∨ (len ≤ 5000 ∧ m = len)) ∧ m ≤ len := by
  by_cases h : len ≤ 5000
  · exact ⟨len, Or.inr ⟨h, rfl⟩, Nat.le_refl _⟩
  · exact ⟨5000, Or.inl ⟨by omega, rfl⟩, by omega⟩

theorem walk (a : Option Addr) (la ca : Nat) (za : List Int) (b : Option Addr) (lb cb : Nat) (zb : List Int) (c : Option Addr) (lc cc : Nat) (zc : List Int) (W : World)
    (ha : IsRow .u8 W a la ca za) (hb : IsRow .u8 W b lb cb zb) (hc : IsRow .u8 W c lc cc zc) :
    Calls Try.prog 4 #[.slice a la ca, .slice b lb cb, .slice c lc cc] W fun e W' => e = .returned (.bool true) ∧ Below W.heap.size W W' := by
  obtain ⟨ma, hma, ka⟩ := cut la
  obtain ⟨mb, hmb, kb⟩ := cut lb
  obtain ⟨mc, hmc, kc⟩ := cut lc
  have FA := ha.front ma ka
  have FB := hb.front mb kb
  have FC := hc.front mc kc
  exact walk0 a la ca ma _ b lb cb mb _ c lc cc mc _ W ha.cap.1 hb.cap.1 hc.cap.1 hma hmb hmc FA.1 FB.1 FC.1 FA.2.1 FB.2.1 FC.2.1 FA.2.2 FB.2.2 FC.2.2


theorem own : ownKnob Try.prog.godebug = none := by kernel_rfl
theorem laidOut : laidOutB Try.prog = true := by kernel_rfl
theorem bytes5 : Try.prog.bytesOf 5 = 1 := by kernel_rfl

set_option maxRecDepth 100000 in
theorem lifted (os : Os) (started : os.Started) (H : Type) (enc : TypeId × Value → H) :
    ReturnsInHanded {} Try.checked os 4 .any (Rows.tallyPiecesSpec.pre6 enc Try.prog Try.f4 Rows.tallyPiecesRow.domain false) (Rows.tallyPiecesSpec.post enc Try.prog Try.f4 false true false false) := by
  refine returnsInHanded_of_change_sized (C := Try.checked) own started (by kernel_rfl) Try.func4
    (ChangeSpec.witness6 (enc := enc) (C := Try.checked) false ⟨#[], #[.slice none 0 0, .slice none 0 0, .slice none 0 0], []⟩ 8 (by kernel_rfl) (by kernel_rfl) (by kernel_rfl) (by kernel_rfl)) ?_
  intro W base args ds gs before hval0 hW hcnd hsz0 _
  have hsz : (DataW.weightsEach Try.prog (Try.f4.params.toList ++ Rows.tallyPiecesSpec.plain.varTypes Try.prog) (ds ++ gs)).all (· ≤ reachBytes) = true := hsz0
  have hval : ∀ (j : Nat) t v, Try.f4.params[j]? = some t → args[j]? = some v → Value.okWide Try.prog W .any base t v := hval0
  have hW' := hW
  obtain ⟨p, q, hA0, hV, rfl, hfz, hnd⟩ := hW
  have hA : DataW.TrodAll enc Try.prog W 0 (fun _ => true) true Try.f4.params.toList args.toList ds p := hA0
  rw [Try.params4] at hA hval hsz
  obtain ⟨v0, vs0, d0, ds0, p0, q0, hargs, rfl, rfl, h0, r0⟩ := trodAll_cons hA
  obtain ⟨v1, vs1, d1, ds1, p1, q1, rfl, rfl, rfl, h1, r1⟩ := trodAll_cons r0
  obtain ⟨v2, vs2, d2, ds2, p2, q2, rfl, rfl, rfl, h2, r2⟩ := trodAll_cons r1
  obtain ⟨rfl, rfl, rfl⟩ := trodAll_nil r2
  obtain rfl : args = #[v0, v1, v2] := by cases args; simp_all
  obtain ⟨rfl, rfl⟩ := trodVars_none hV
  obtain ⟨a0, len0, cap0, rfl⟩ := okWide_slice Try.underlying23 (hval 0 23 v0 rfl rfl)
  have k0 := h0
  have lt0 : ∀ x ∈ p0, x.block < W.heap.size := by obtain ⟨m, hm⟩ := k0; exact DataW.trod_lt m _ _ _ hm
  obtain ⟨z0, w0⟩ : ∃ zs, IsRow .u8 W a0 len0 cap0 zs := by
    obtain ⟨fuel, hf⟩ := h0
    rcases open_ints Try.underlying23 Try.underlying5 (by kernel_rfl) hf with ⟨hcs, _⟩ | ⟨x, l, c, zs, hcs, _, hl, hm, hz, hdx, hcell, hwz⟩
    · simp [Value.cells] at hcs
      obtain ⟨rfl, rfl, rfl⟩ := hcs
      exact ⟨[], .inl ⟨rfl, rfl, rfl, rfl⟩⟩
    · simp [Value.cells] at hcs
      obtain ⟨rfl, rfl, rfl⟩ := hcs
      have hzl : zs.length = cap0 := by simpa using hz
      have hdd : d0 = .slice (lits .u8 (zs.take len0)) (lits .u8 (zs.drop len0)) := congrArg Prod.fst hdx
      have hw := sized_slice hsz (j := 0) (t := 23) (e := 5) rfl (by rw [hdd]; rfl) Try.underlying23
      rw [bytes5] at hw
      simp only [lits, List.length_map, List.length_take, List.length_drop, reachBytes] at hw
      exact ⟨zs, .inr ⟨_, rfl, hl, by omega, hzl, hcell, hwz⟩⟩
  obtain ⟨a1, len1, cap1, rfl⟩ := okWide_slice Try.underlying23 (hval 1 23 v1 rfl rfl)
  have k1 := h1
  have lt1 : ∀ x ∈ p1, x.block < W.heap.size := by obtain ⟨m, hm⟩ := k1; exact DataW.trod_lt m _ _ _ hm
  obtain ⟨z1, w1⟩ : ∃ zs, IsRow .u8 W a1 len1 cap1 zs := by
    obtain ⟨fuel, hf⟩ := h1
    rcases open_ints Try.underlying23 Try.underlying5 (by kernel_rfl) hf with ⟨hcs, _⟩ | ⟨x, l, c, zs, hcs, _, hl, hm, hz, hdx, hcell, hwz⟩
    · simp [Value.cells] at hcs
      obtain ⟨rfl, rfl, rfl⟩ := hcs
      exact ⟨[], .inl ⟨rfl, rfl, rfl, rfl⟩⟩
    · simp [Value.cells] at hcs
      obtain ⟨rfl, rfl, rfl⟩ := hcs
      have hzl : zs.length = cap1 := by simpa using hz
      have hdd : d1 = .slice (lits .u8 (zs.take len1)) (lits .u8 (zs.drop len1)) := congrArg Prod.fst hdx
      have hw := sized_slice hsz (j := 1) (t := 23) (e := 5) rfl (by rw [hdd]; rfl) Try.underlying23
      rw [bytes5] at hw
      simp only [lits, List.length_map, List.length_take, List.length_drop, reachBytes] at hw
      exact ⟨zs, .inr ⟨_, rfl, hl, by omega, hzl, hcell, hwz⟩⟩
  obtain ⟨a2, len2, cap2, rfl⟩ := okWide_slice Try.underlying23 (hval 2 23 v2 rfl rfl)
  have k2 := h2
  have lt2 : ∀ x ∈ p2, x.block < W.heap.size := by obtain ⟨m, hm⟩ := k2; exact DataW.trod_lt m _ _ _ hm
  obtain ⟨z2, w2⟩ : ∃ zs, IsRow .u8 W a2 len2 cap2 zs := by
    obtain ⟨fuel, hf⟩ := h2
    rcases open_ints Try.underlying23 Try.underlying5 (by kernel_rfl) hf with ⟨hcs, _⟩ | ⟨x, l, c, zs, hcs, _, hl, hm, hz, hdx, hcell, hwz⟩
    · simp [Value.cells] at hcs
      obtain ⟨rfl, rfl, rfl⟩ := hcs
      exact ⟨[], .inl ⟨rfl, rfl, rfl, rfl⟩⟩
    · simp [Value.cells] at hcs
      obtain ⟨rfl, rfl, rfl⟩ := hcs
      have hzl : zs.length = cap2 := by simpa using hz
      have hdd : d2 = .slice (lits .u8 (zs.take len2)) (lits .u8 (zs.drop len2)) := congrArg Prod.fst hdx
      have hw := sized_slice hsz (j := 2) (t := 23) (e := 5) rfl (by rw [hdd]; rfl) Try.underlying23
      rw [bytes5] at hw
      simp only [lits, List.length_map, List.length_take, List.length_drop, reachBytes] at hw
      exact ⟨zs, .inr ⟨_, rfl, hl, by omega, hzl, hcell, hwz⟩⟩
  clear hA0 hval0
  refine (walk a0 len0 cap0 z0 a1 len1 cap1 z1 a2 len2 cap2 z2 W w0 w1 w2).mono fun e W' ⟨he, bel⟩ => ?_
  subst he
  exact ⟨_, rfl, _, _, _, [], _, [], hW', trodAll_mk1 (shut_bool Try.underlying4 _), (trodAll_cons_mk (Below.trod laidOut (by kernel_rfl) (of_decide_eq_true (by kernel_rfl)) k0 bel lt0) (trodAll_cons_mk (Below.trod laidOut (by kernel_rfl) (of_decide_eq_true (by kernel_rfl)) k1 bel lt1) (trodAll_cons_mk (Below.trod laidOut (by kernel_rfl) (of_decide_eq_true (by kernel_rfl)) k2 bel lt2) trodAll_mk0))), rfl, bel.frame _, fun h => by cases h⟩

theorem over : Rows.tallyPiecesRow.holds Try.pinned (OpenSpec.ofChange Rows.tallyPiecesSpec) :=
  OpenClaim.holds_of_wide 4 Try.f4 rfl rfl rfl rfl rfl rfl rfl ⟨rfl, rfl, rfl, rfl, rfl⟩ rfl rfl rfl rfl rfl (by kernel_rfl) Try.func4 (by kernel_rfl)
    (of_decide_eq_true (by kernel_rfl)) (by unfold Func.isWrapper; first | (rw [if_pos (by decide +kernel)]; kernel_rfl) | (rw [if_neg (by decide +kernel)]; exact ⟨rfl, rfl⟩))
    (fun os started H enc _ => lifted os started H enc)

end Go.Proofs.Ytdhgdgcblgdefaa.tallyPieces
namespace Go.Proofs.Ytdhgdgcblgdefaa

/-- The statement. -/
theorem tallyPieces_proved : Rows.TallyPiecesSaid := tallyPieces.over
#print axioms tallyPieces_proved
end Go.Proofs.Ytdhgdgcblgdefaa
