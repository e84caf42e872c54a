/- H and K, as the document's answer makes them. -/
import Derived.Test.YteefpbeglmnilaaDoorRd
import Derived.Test.YteefpbeglmnilaaDoorRe
namespace Go.Proofs.YteefpbeglmnilaaDoor
open Go.RowKit
set_option linter.unusedVariables false

structure RrW (w wr : World) (hl kl : List (BitVec 32)) : Prop where
  bel : Below w.heap.size w wr
  r0 : Row wr w.heap.size 62 (ws (List.replicate 8 0#32))
  r1 : Row wr (w.heap.size + 1) 64 (ws (List.replicate 64 0#32))
  h : Row wr (w.heap.size + 2) 62 (ws hl)
  k : Row wr (w.heap.size + 3) 64 (ws kl)

theorem RrW.step {w wr w' : World} {hl kl : List (BitVec 32)} (h : RrW w wr hl kl) (b : Below wr.heap.size wr w') : RrW w w' hl kl :=
  ⟨below_below h.bel b, h.r0.keep b h.r0.lt, h.r1.keep b h.r1.lt, h.h.keep b h.h.lt, h.k.keep b h.k.lt⟩
theorem RrW.setH {w wr : World} {hl kl : List (BitVec 32)} (h : RrW w wr hl kl) (i : Nat) (x : BitVec 32) : RrW w (wr.setCell ⟨w.heap.size + 2, i, none⟩ (.int .u32 (x.toNat : Int))) (hl.set i x) kl :=
  ⟨below_setCell h.bel _ _ (by show w.heap.size ≤ w.heap.size + 2; omega), h.r0.other _ _ (by simp), h.r1.other _ _ (by simp), by rw [← ws_set]; exact h.h.set i _, h.k.other _ _ (by simp)⟩
theorem RrW.setK {w wr : World} {hl kl : List (BitVec 32)} (h : RrW w wr hl kl) (i : Nat) (x : BitVec 32) : RrW w (wr.setCell ⟨w.heap.size + 3, i, none⟩ (.int .u32 (x.toNat : Int))) hl (kl.set i x) :=
  ⟨below_setCell h.bel _ _ (by show w.heap.size ≤ w.heap.size + 3; omega), h.r0.other _ _ (by simp), h.r1.other _ _ (by simp), h.h.other _ _ (by simp), by rw [← ws_set]; exact h.k.set i _⟩

theorem und42' : Tryd.prog.underlying 62 = some (.array 8 61) := by kernel_rfl
theorem info42 : (Tryd.prog.info? 62).map (·.size) = some 8 := by kernel_rfl
theorem und44 : Tryd.prog.underlying 64 = some (.array 64 61) := by kernel_rfl
theorem info44 : (Tryd.prog.info? 64).map (·.size) = some 64 := by kernel_rfl

structure RrE (N : Nat) (hl kl : List Value) (W : World) : Prop where
  h : Row W (N + 2) 62 hl
  k : Row W (N + 3) 64 kl
  r0 : ∃ us, us.length = 8 ∧ Row W N 62 us
  r1 : ∃ us, us.length = 64 ∧ Row W (N + 1) 64 us
theorem RrE.drew {N : Nat} {hl kl : List Value} {W : World} (h : RrE N hl kl W) : RrE N hl kl W.drew := ⟨h.h, h.k, h.r0, h.r1⟩
theorem RrE.drewN {N : Nat} {hl kl : List Value} {W : World} (h : RrE N hl kl W) (n : Nat) : RrE N hl kl (W.drewN n) := ⟨h.h, h.k, h.r0, h.r1⟩
theorem RrE.put0 {N : Nat} {hl kl : List Value} {W : World} (h : RrE N hl kl W) (hn : hl.length = 8) : RrE N hl kl (W.setRow N hl.toArray) := by
  obtain ⟨us, _, hr⟩ := h.r0
  obtain ⟨us', hl', hr'⟩ := h.r1
  exact ⟨h.h.putOther (by omega), h.k.putOther (by omega), ⟨hl, hn, hr.put⟩, ⟨us', hl', hr'.putOther (by omega)⟩⟩
theorem RrE.put1 {N : Nat} {hl kl : List Value} {W : World} (h : RrE N hl kl W) (hn : kl.length = 64) : RrE N hl kl (W.setRow (N + 1) kl.toArray) := by
  obtain ⟨us, hl', hr⟩ := h.r0
  obtain ⟨us', _, hr'⟩ := h.r1
  exact ⟨h.h.putOther (by omega), h.k.putOther (by omega), ⟨us, hl', hr.putOther (by omega)⟩, ⟨kl, hn, hr'.put⟩⟩

set_option maxRecDepth 100000 in
set_option maxHeartbeats 1000000 in
theorem rrows_ok (w : World) :
    Calls Tryd.prog 36 #[] w fun e w' => e = .returned (.tuple #[.agg (ws Sha.H.list).toArray, .agg (ws Sha.K).toArray]) ∧ Below w.heap.size w w' := by
  go_enter Tryd.func36, Tryd.ntmps36
  go_wp2_with fail
  generalize hw0 : World.alloc (World.alloc (World.alloc (World.alloc w _) _) _) _ = w0
  have S0 : Hid (RrW w w0 (Sha.uw Sha.H.list (Sha.ps 0).length) (Sha.uw Sha.K (Sha.ps 0).length)) := by
    have a1 := Row.new w 62 (ws (List.replicate 8 0#32))
    have a2 := Row.new (World.alloc w (.cells (ws (List.replicate 8 0#32)).toArray 62)) 64 (ws (List.replicate 64 0#32))
    have a3 := Row.new (World.alloc (World.alloc w (.cells (ws (List.replicate 8 0#32)).toArray 62)) (.cells (ws (List.replicate 64 0#32)).toArray 64)) 62 (ws (List.replicate 8 0#32))
    have a4 := Row.new (World.alloc (World.alloc (World.alloc w (.cells (ws (List.replicate 8 0#32)).toArray 62)) (.cells (ws (List.replicate 64 0#32)).toArray 64)) (.cells (ws (List.replicate 8 0#32)).toArray 62)) 64 (ws (List.replicate 64 0#32))
    have b : Below w.heap.size w w0 := by
      subst hw0
      exact ((((Below.refl _ _).alloc (Nat.le_refl _) _).alloc (by simp) _).alloc (by simp; omega) _).alloc (by simp; omega) _
    simp only [World.size_alloc] at a2 a3 a4
    refine ⟨b, ?_, ?_, ?_, ?_⟩
    all_goals subst hw0
    · exact ((a1.alloc _).alloc _).alloc _
    · exact (a2.alloc _).alloc _
    · exact a3.alloc _
    · exact a4
  clear hw0
  rw [show w.heap.size + 1 + 1 + 1 = w.heap.size + 3 from rfl, show w.heap.size + 1 + 1 = w.heap.size + 2 from rfl]
  go_loopw [4, 5] (fun n p wr => ∃ k : Nat, k ≤ 310 ∧ n = .int .i64 ((Sha.ps k).length : Int) ∧ p = .int .u64 ((k + 2 : Nat) : Int) ∧ RrW w wr (Sha.uw Sha.H.list (Sha.ps k).length) (Sha.uw Sha.K (Sha.ps k).length)) (fun _ p _ => 312 - (intOf p).toNat)
  case atStart => exact ⟨0, Nat.zero_le _, rfl, rfl, S0.out⟩
  case round =>
    clear S0 w0
    obtain ⟨k, hk, rfl, rfl, hs⟩ := hrel
    have HS := hd hs
    clear hs
    by_cases hlt : k < 310
    · have hn := ps_lt ⟨k, hlt⟩
      have HA := hd (isP_all ⟨k, hlt⟩)
      have HB := hd (ps_at ⟨k, hlt⟩)
      simp only at hn HA HB
      have HP : Hid (Sha.ps (k + 1) = if Sha.chk (Sha.ps k) (k + 2) = true then Sha.ps k ++ [k + 2] else Sha.ps k) := rfl
      generalize Sha.ps k = l at *
      generalize hch : Sha.chk l (k + 2) = c at *
      clear hch
      have PR := hd (fun wv => isPrime_ok (k + 2) wv (by omega))
      rw [HA.out] at PR
      have R2 := hd (fun wv => rroot_ok (k + 2) 2 (Or.inl rfl) wv)
      have R3 := hd (fun wv => rroot_ok (k + 2) 3 (Or.inr rfl) wv)
      generalize hxx : k + 2 = x at *
      have HXK := hd hxx
      have HC : Hid (x + 1 = k + 1 + 2) := hd (by omega)
      clear hxx
      have hx : x < 400 := by have := HXK.out; omega
      have s2 : IntKind.u64.wrap ((x : Int) + 1) = ((x + 1 : Nat) : Int) := by rw [IntKind.wrap_u64]; omega
      generalize hnn : l.length = n at *
      have HN := hd hnn
      clear hnn
      have hn' : (n : Int) < 64 := by omega
      go_wp2_with fail
      refine (PR.out _).mono ?_
      rintro e w1 ⟨rfl, rfl⟩
      cases c with
      | false =>
        have PU : Hid (Sha.ps (k + 1) = l) := hd (by rw [HP.out, if_neg (by decide)])
        go_wp2_with fail
        go_roundw
        case rel => exact ⟨k + 1, by omega, by rw [PU.out, HN.out], by rw [← HC.out]; go_num, by rw [PU.out, HN.out]; exact HS.out⟩
        case measure => have := HXK.out; simp only [intOf]; omega
      | true =>
        have PU : Hid (Sha.ps (k + 1) = l ++ [x]) := hd (by rw [HP.out, if_pos rfl])
        have LU : Hid ((l ++ [x]).length = n + 1) := hd (by rw [List.length_append, HN.out]; rfl)
        have HX := hd (HB.out rfl)
        have s1 : IntKind.i64.wrap ((n : Int) + 1) = ((n + 1 : Nat) : Int) := by rw [IntKind.wrap_i64]; omega
        have E3 : Hid (((Ref.root x 3 : Nat) : Int) = ((Sha.at_ Sha.K n).toNat : Int)) := hd (by rw [← rk_all n hn, HX.out])
        by_cases h8 : n < 8
        · have h8' : (n : Int) < 8 := by omega
          have E2 : Hid (((Ref.root x 2 : Nat) : Int) = ((Sha.at_ Sha.H.list n).toNat : Int)) := hd (by rw [← rh_all n h8, HX.out])
          rw [E2.out] at R2
          rw [E3.out] at R3
          go_wp2_with fail
          refine (R2.out _).mono ?_
          rintro e w2 ⟨rfl, hb⟩
          have S2 := hd (HS.out.step hb)
          clear hb HS
          have f2 := S2.out.h.frozen n
          have c2 := S2.out.h.cell n (.int .u32 0) (by rw [ws_len, uw_len]; exact h8)
          have S3 := hd (S2.out.setH n (Sha.at_ Sha.H.list n))
          rw [uw_set Sha.H.list n h8] at S3
          clear S2
          generalize (ws (Sha.uw Sha.H.list n)).getD n (.int .u32 0) = o2 at c2
          generalize ((Sha.at_ Sha.H.list n).toNat : Int) = η at *
          go_wp2_with fail
          refine (R3.out _).mono ?_
          rintro e w3 ⟨rfl, hb⟩
          have S4 := hd (S3.out.step hb)
          clear hb S3 f2 c2
          have f3 := S4.out.k.frozen n
          have c3 := S4.out.k.cell n (.int .u32 0) (by rw [ws_len, uw_len]; exact hn)
          have S5 := hd (S4.out.setK n (Sha.at_ Sha.K n))
          rw [uw_set Sha.K n hn] at S5
          clear S4
          generalize (ws (Sha.uw Sha.K n)).getD n (.int .u32 0) = o3 at c3
          generalize ((Sha.at_ Sha.K n).toNat : Int) = κ at *
          go_wp2_with fail
          go_roundw
          case rel => exact ⟨k + 1, by omega, by rw [PU.out, LU.out]; go_num, by rw [← HC.out]; go_num, by rw [PU.out, LU.out]; exact S5.out⟩
          case measure => have := HXK.out; simp only [intOf]; omega
        · have h8' : ¬ ((n : Int) < 8) := by omega
          rw [E3.out] at R3
          clear R2
          go_wp2_with fail
          refine (R3.out _).mono ?_
          rintro e w3 ⟨rfl, hb⟩
          have S4 := hd (HS.out.step hb)
          clear hb HS
          have f3 := S4.out.k.frozen n
          have c3 := S4.out.k.cell n (.int .u32 0) (by rw [ws_len, uw_len]; exact hn)
          have S5 := hd (S4.out.setK n (Sha.at_ Sha.K n))
          rw [uw_set Sha.K n hn] at S5
          have HH : Hid (Sha.uw Sha.H.list n = Sha.uw Sha.H.list (n + 1)) := hd (by rw [uw_all _ _ (by show 8 ≤ n; omega), uw_all _ _ (by show 8 ≤ n + 1; omega)])
          rw [HH.out] at S5
          clear S4
          generalize (ws (Sha.uw Sha.K n)).getD n (.int .u32 0) = o3 at c3
          generalize ((Sha.at_ Sha.K n).toNat : Int) = κ at *
          go_wp2_with fail
          go_roundw
          case rel => exact ⟨k + 1, by omega, by rw [PU.out, LU.out]; go_num, by rw [← HC.out]; go_num, by rw [PU.out, LU.out]; exact S5.out⟩
          case measure => have := HXK.out; simp only [intOf]; omega
    · have hk310 : k = 310 := by omega
      subst hk310
      rw [ps_310] at HS ⊢
      have T1 := HS.out.h
      have T2 := HS.out.k
      rw [uw_all Sha.H.list 64 (by decide)] at T1
      rw [uw_all Sha.K 64 (by decide)] at T2
      have T3 := HS.out.r0
      have T4 := HS.out.r1
      have TB := hd HS.out.bel
      clear HS
      have lh : (ws Sha.H.list).length = 8 := rfl
      have lk : (ws Sha.K).length = 64 := rfl
      have oh := hd (ws_one Sha.H.list)
      have ok := hd (ws_one Sha.K)
      generalize hhl : ws Sha.H.list = hl at *
      generalize hkl : ws Sha.K = kl at *
      have HHL := hd hhl
      have HKL := hd hkl
      clear hhl hkl
      rw [show ((64 : Nat) : Int) = 64 from rfl]
      have E1 : Hid (Row wr w.heap.size 62 (ws (List.replicate 8 0#32)) ∧ Row wr (w.heap.size + 1) 64 (ws (List.replicate 64 0#32))) := ⟨T3, T4⟩
      have g1 : RrE w.heap.size hl kl wr := ⟨T1, T2, ⟨_, by rw [ws_len]; rfl, T3⟩, ⟨_, by rw [ws_len]; rfl, T4⟩⟩
      have LH := hd lh
      have LK := hd lk
      clear T1 T2 T3 T4 lh lk
      go_wp2_with fail
      refine wp_region_held_drew (S := fun W => RrE w.heap.size hl kl W) (by kernel_rfl) g1.drew (fun hHeld => ?_)
      refine wpAnyH_take (i := 0) (oi := { dst := some 25, op := Op.load 62 (Operand.tmp 2), type := 62, pos := "ref.go:75", after := #[], guard := none }) (v := .agg hl.toArray) rfl (by kernel_rfl) (by kernel_rfl) (by kernel_rfl) (fun _ _ _ h => h) (yields_row (by rfl) 62 _ rfl (w.heap.size + 2) rfl 62 hl _ (fun _ h => h.h) und42' rfl (by rw [LH.out]; exact info42)) hHeld ?_
      simp only [Act.put, List.setIfInBounds_toArray, List.set_cons_zero, List.set_cons_succ]
      refine wpAnyH_take (i := 1) (oi := { dst := some 26, op := Op.load 64 (Operand.tmp 3), type := 64, pos := "ref.go:75", after := #[{ on := 2, ground := Ground.gcOnly Departure.lateStores }], guard := none }) (v := .agg kl.toArray) rfl (by kernel_rfl) (by kernel_rfl) (by kernel_rfl) (fun _ _ _ h => h) (yields_row (by rfl) 64 _ rfl (w.heap.size + 3) rfl 64 kl _ (fun _ h => h.k) und44 rfl (by rw [LK.out]; exact info44)) hHeld ?_
      simp only [Act.put, List.setIfInBounds_toArray, List.set_cons_zero, List.set_cons_succ]
      refine wpAnyH_ready (rs := [2]) (by kernel_rfl) (by simp) ?_
      refine AllReadyH.cons rfl (fun K hK => ?_) AllReadyH.nil
      refine step_store_row rfl 62 _ _ rfl w.heap.size hl rfl rfl 62 8 hHeld.r0 LH.out info42 oh.out ?_
      refine hK.out _ _ (hHeld.put0 LH.out) (fun hHeld2 => ?_)
      clear hK K
      refine wpAnyH_ready (rs := [3]) (by kernel_rfl) (by simp) ?_
      refine AllReadyH.cons rfl (fun K hK => ?_) AllReadyH.nil
      refine step_store_row rfl 64 _ _ rfl (w.heap.size + 1) kl rfl rfl 64 64 hHeld2.r1 LK.out info44 ok.out ?_
      refine hK.out _ _ (hHeld2.put1 LK.out) (fun hHeld3 => ?_)
      clear hK K
      refine wpAnyH_done (by kernel_rfl) ?_ _
      go_wp2_with fail
      have e0 : Hid (Row ((wr.drew.setRow w.heap.size hl.toArray).setRow (w.heap.size + 1) kl.toArray) w.heap.size 62 hl) := ((E1.out.1.drew).put (us := hl)).putOther (by omega)
      have e1 : Hid (Row ((wr.drew.setRow w.heap.size hl.toArray).setRow (w.heap.size + 1) kl.toArray) (w.heap.size + 1) 64 kl) := ((E1.out.2.drew).putOther (us := hl) (by omega)).put
      have e2 : Hid (Below w.heap.size w ((wr.drew.setRow w.heap.size hl.toArray).setRow (w.heap.size + 1) kl.toArray)) := below_setRow (below_setRow TB.out.drew _ _ (Nat.le_refl _)) _ _ (Nat.le_succ _)
      generalize (wr.drew.setRow w.heap.size hl.toArray).setRow (w.heap.size + 1) kl.toArray = wz at *
      refine bodyPost_ret (v := .tuple #[.agg hl.toArray, .agg kl.toArray]) ?_ rfl ⟨by rw [HHL.out, HKL.out], e2.out⟩
      have r0 := run_loadVar_row (P := Tryd.prog) wz w.heap.size 62 62 hl.toArray (0, 0) _ e0.out und42' rfl (by rw [List.size_toArray, LH.out]; exact info42)
      have r1 := run_loadVar_row (P := Tryd.prog) wz (w.heap.size + 1) 64 64 kl.toArray (0, 0) _ e1.out und44 rfl (by rw [List.size_toArray, LK.out]; exact info44)
      exact results_two_rows (P := Tryd.prog) (fn := Tryd.f36) (p := 0) (q := 1) (by kernel_rfl) _ _ _ _ _ _ rfl rfl r0 r1
end Go.Proofs.YteefpbeglmnilaaDoor
