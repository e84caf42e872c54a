/- KnotApart: walk. -/
import Derived.Test.YtopgjeakkpedlaaDoorOw
namespace Go.Proofs.YtopgjeakkpedlaaDoor.knotApart
open Go.RowKit
set_option linter.unusedVariables false

theorem min200 (len q : Nat) (hm : (len ≤ 200 ∧ q = len) ∨ (200 < len ∧ q = 200)) (w : World) : (Builtin.min_ #[3, 3] 3 #[.int .i64 (len : Int), .int .i64 200]).run Tryd.prog w = .ok (.int .i64 (q : Int)) w := by
  simp only [Builtin.min_, Builtin.min2, List.foldlM_cons, List.foldlM_nil, pure_bind, Sem.run_pure, Result.ok.injEq, Value.int.injEq, true_and, and_true]
  split <;> omega

theorem isrow_sl {W : World} {a : Option Addr} {len cap : Nat} {zs : List Int} (h : IsRow .u8 W a len cap zs) (q : Nat) (hq : q ≤ len) : Sl W (.slice a q cap) (zs.take q) ∧ (zs.take q).length = q ∧ Byt (zs.take q) := by
  have hc := h.cap
  have hlen : (zs.take q).length = q := by rw [List.length_take]; omega
  refine ⟨?_, hlen, h.byt.take q⟩
  by_cases h0 : q = 0
  · subst h0; exact sl_empty _ _ _
  rcases h.at_ with h1 | ⟨g, off, rfl, hg, hcell⟩
  · omega
  · refine Or.inr ⟨g, off, cap, by rw [hlen], by omega, by omega, by omega, hg, fun i hi => ?_⟩
    rw [hlen] at hi
    rw [hcell i (by omega), List.getD_eq_getElem?_getD, List.getD_eq_getElem?_getD, List.getElem?_take_of_lt hi]

/-- What a round finds of one list: the row's place, its first bytes. -/
theorem round_row {W : World} {a : Option Addr} {len cap : Nat} {A : Nat → Option Addr} {L C : Nat → Nat} {Z : Nat → List Int} (h : IsRows W a len cap A L C Z) (k : Nat) (hk : k < len) :
    ∃ b off q m, a = some ⟨b, off, none⟩ ∧ b < W.heap.size ∧ W.cell? ⟨b, off + k, none⟩ = some (.slice (A k) (L k) (C k)) ∧ ((L k ≤ 200 ∧ q = L k) ∨ (200 < L k ∧ q = 200)) ∧ q ≤ C k ∧ q ≤ 200 ∧ m.length = q ∧ Byt m ∧ Sl W (.slice (A k) q (C k)) m := by
  obtain ⟨b, off, e1, e2, e3, e4⟩ := h.row k hk
  have hc := e4.cap
  by_cases hl : L k ≤ 200
  · obtain ⟨s1, s2, s3⟩ := isrow_sl e4 (L k) (Nat.le_refl _)
    exact ⟨b, off, L k, _, e1, e2, e3, Or.inl ⟨hl, rfl⟩, hc.1, hl, s2, s3, s1⟩
  · obtain ⟨s1, s2, s3⟩ := isrow_sl e4 200 (by omega)
    exact ⟨b, off, 200, _, e1, e2, e3, Or.inr ⟨by omega, rfl⟩, by omega, by omega, s2, s3, s1⟩

set_option maxRecDepth 100000 in
set_option maxHeartbeats 1600000 in
theorem walk (a : Option Addr) (llen lcap : Nat) (A : Nat → Option Addr) (L C : Nat → Nat) (Z : Nat → List Int) (a2 : Option Addr) (mlen mcap : Nat) (A2 : Nat → Option Addr) (L2 C2 : Nat → Nat) (Z2 : Nat → List Int) (W : World)
    (h1 : IsRows W a llen lcap A L C Z) (h2 : IsRows W a2 mlen mcap A2 L2 C2 Z2) (G : Glob W) :
    Calls Tryd.prog 5 #[.slice a llen lcap, .slice a2 mlen mcap] W fun e W' => e = .returned (.bool true) ∧ Below W.heap.size W W' := by
  have I1 := hd h1
  have I2 := hd h2
  have HG := hd G
  clear h1 h2 G
  go_enter Tryd.func5, Tryd.ntmps5
  go_wp2_with fail
  refine (works_ok W HG.out).mono ?_
  rintro e w1 ⟨rfl, hk⟩
  have B1 := hd hk
  clear hk
  go_wp2_with fail
  refine (new_ok w1).mono ?_
  rintro e w2 ⟨kx, rfl, hkx, hrx, hk⟩
  have B2 := hd hk
  have RX := hd hrx
  have NX := hd hkx
  clear hk hrx hkx
  go_wp2_with fail
  refine (new_ok w2).mono ?_
  rintro e w3 ⟨ky, rfl, hky, hry, hk⟩
  have A0 : Hid (AS W kx ky [] [] [] [] (.slice none 0 0) (.slice none 0 0) w3) := ⟨below_below (below_below B1.out B2.out) hk, Nat.le_trans B1.out.size NX.out, Nat.le_trans B1.out.size (Nat.le_trans B2.out.size hky), (fun e => by have := RX.out.lt; omega), RX.out.keep hk RX.out.lt, hry, World.ownsRow_nil _ _ _ _, World.ownsRow_nil _ _ _ _, (fun g h => by cases h), Byt.nil, Byt.nil⟩
  clear hk hry hky B1 B2 RX NX
  go_wp2_with fail
  go_loopw [7, 8, 9] (fun va vb i wr => ∃ (k : Nat) (la lb : List Int), k ≤ 10 ∧ i = .int .i64 (k : Int) ∧ la.length ≤ 200 * k ∧ lb.length ≤ 200 * k ∧ AS W kx ky la lb la lb va vb wr) (fun _ _ i _ => 10 - (intOf i).toNat)
  case atStart => exact ⟨0, [], [], Nat.zero_le _, rfl, Nat.le_refl _, Nat.le_refl _, A0.out⟩
  case round =>
    clear A0
    obtain ⟨k, la, lb, hk, rfl, hla, hlb, has⟩ := hrel
    have HA := hd has
    clear has
    have HK := hd (And.intro hk (And.intro hla hlb))
    by_cases hlt : k < 10
    · have hlt' : (k : Int) < 10 := by omega
      clear hk hla hlb
      by_cases h1 : k < llen
      · by_cases h2 : k < mlen
        · have h2'' : (k : Int) < (mlen : Int) := by omega
          obtain ⟨b1, o1, q1, m1, rfl, hb1, hc1, hq1, hcap1, h200, hm1, hy1, hs1⟩ := round_row I1.out k h1
          have S1 := hd hs1
          have M1 := hd (And.intro hm1 h200)
          have Y1 := hd hy1
          have c1 : wr.cell? ⟨b1, o1 + k, none⟩ = some (.slice (A k) (L k) (C k)) := by
            rw [(kpB HA.out.bel (fun _ => False)).cell (p := ⟨b1, o1 + k, none⟩) hb1 (fun h => h)]
            exact hc1
          have min1 := min200 _ _ hq1
          have g1 : (q1 : Int) ≤ (C k : Int) := by omega
          have h1' : (k : Int) < (llen : Int) := by omega
          clear hs1 hy1 hc1 hb1 hq1 hm1 h200
          generalize A k = Ak at *
          generalize L k = Lk at *
          generalize C k = Ck at *
          go_wp2_with fail
          go_quiet (fail)
          have HA1 := hd (HA.out.step (below_drewN (Below.refl _ _) nq))
          clear HA c1 min1
          go_wp2_with fail
          refine (AS.add HA1.out (S1.out.ap HA1.out.bel HA1.out.nx) Y1.out (by have := HK.out; omega)).mono ?_
          rintro e w4 ⟨rfl, has⟩
          obtain ⟨va', w5, hrun, has5⟩ := has.app (S1.out.keep has.bel) (by have := HK.out; have := M1.out; omega)
          have HR := hd hrun
          have HA5 := hd has5
          clear has hrun has5 HA1
          go_wp2_with (at_builtin; refine wpList_append_run _ rfl _ _ _ _ rfl _ _ rfl rfl va' w5 HR.out ?_)
          obtain ⟨b2, o2, q2, m2, rfl, hb2, hc2, hq2, hcap2, h200, hm2, hy2, hs2⟩ := round_row I2.out k h2
          have S2 := hd hs2
          have M2 := hd (And.intro hm2 h200)
          have Y2 := hd hy2
          have c2 : w5.cell? ⟨b2, o2 + k, none⟩ = some (.slice (A2 k) (L2 k) (C2 k)) := by
            rw [(kpB HA5.out.bel (fun _ => False)).cell (p := ⟨b2, o2 + k, none⟩) hb2 (fun h => h)]
            exact hc2
          have min2 := min200 _ _ hq2
          have g2 : (q2 : Int) ≤ (C2 k : Int) := by omega
          have h2' : (k : Int) < (mlen : Int) := by omega
          clear hs2 hy2 hc2 hb2 hq2 hm2 h200
          generalize A2 k = A2k at *
          generalize L2 k = L2k at *
          generalize C2 k = C2k at *
          go_wp2_with fail
          go_quiet (fail)
          have HB1 := hd (HA5.out.step (below_drewN (Below.refl _ _) nq))
          clear HA5 c2 min2
          go_wp2_with fail
          refine (AS.add HB1.out.swap (S2.out.ap HB1.out.bel HB1.out.ny) Y2.out (by have := HK.out; omega)).mono ?_
          rintro e w6 ⟨rfl, has⟩
          obtain ⟨vb', w7, hrun, has5⟩ := has.app (S2.out.keep has.bel) (by have := HK.out; have := M2.out; omega)
          have HR2 := hd hrun
          have HB5 := hd has5.swap
          clear has hrun has5 HB1
          go_wp2_with (at_builtin; refine wpList_append_run _ rfl _ _ _ _ rfl _ _ rfl rfl vb' w7 HR2.out ?_)
          go_roundw
          case rel => exact ⟨k + 1, la ++ m1, lb ++ m2, by omega, by go_num, (by have := HK.out; have := M1.out; rw [List.length_append]; omega), (by have := HK.out; have := M2.out; rw [List.length_append]; omega), HB5.out⟩
          case measure => simp [intOf]; omega
        · have h2' : ¬ ((k : Int) < (mlen : Int)) := by omega
          obtain ⟨b1, o1, q1, m1, rfl, hb1, hc1, hq1, hcap1, h200, hm1, hy1, hs1⟩ := round_row I1.out k h1
          have S1 := hd hs1
          have M1 := hd (And.intro hm1 h200)
          have Y1 := hd hy1
          have c1 : wr.cell? ⟨b1, o1 + k, none⟩ = some (.slice (A k) (L k) (C k)) := by
            rw [(kpB HA.out.bel (fun _ => False)).cell (p := ⟨b1, o1 + k, none⟩) hb1 (fun h => h)]
            exact hc1
          have min1 := min200 _ _ hq1
          have g1 : (q1 : Int) ≤ (C k : Int) := by omega
          have h1' : (k : Int) < (llen : Int) := by omega
          clear hs1 hy1 hc1 hb1 hq1 hm1 h200
          generalize A k = Ak at *
          generalize L k = Lk at *
          generalize C k = Ck at *
          go_wp2_with fail
          go_quiet (fail)
          have HA1 := hd (HA.out.step (below_drewN (Below.refl _ _) nq))
          clear HA c1 min1
          go_wp2_with fail
          refine (AS.add HA1.out (S1.out.ap HA1.out.bel HA1.out.nx) Y1.out (by have := HK.out; omega)).mono ?_
          rintro e w4 ⟨rfl, has⟩
          obtain ⟨va', w5, hrun, has5⟩ := has.app (S1.out.keep has.bel) (by have := HK.out; have := M1.out; omega)
          have HR := hd hrun
          have HA5 := hd has5
          clear has hrun has5 HA1
          go_wp2_with (at_builtin; refine wpList_append_run _ rfl _ _ _ _ rfl _ _ rfl rfl va' w5 HR.out ?_)
          go_roundw
          case rel => exact ⟨k + 1, la ++ m1, lb, by omega, by go_num, (by have := HK.out; have := M1.out; rw [List.length_append]; omega), (by have := HK.out; omega), HA5.out⟩
          case measure => simp [intOf]; omega
      · by_cases h2 : k < mlen
        · have h1' : ¬ ((k : Int) < (llen : Int)) := by omega
          have h2'' : (k : Int) < (mlen : Int) := by omega
          obtain ⟨b2, o2, q2, m2, rfl, hb2, hc2, hq2, hcap2, h200, hm2, hy2, hs2⟩ := round_row I2.out k h2
          have S2 := hd hs2
          have M2 := hd (And.intro hm2 h200)
          have Y2 := hd hy2
          have c2 : wr.cell? ⟨b2, o2 + k, none⟩ = some (.slice (A2 k) (L2 k) (C2 k)) := by
            rw [(kpB HA.out.bel (fun _ => False)).cell (p := ⟨b2, o2 + k, none⟩) hb2 (fun h => h)]
            exact hc2
          have min2 := min200 _ _ hq2
          have g2 : (q2 : Int) ≤ (C2 k : Int) := by omega
          have h2' : (k : Int) < (mlen : Int) := by omega
          clear hs2 hy2 hc2 hb2 hq2 hm2 h200
          generalize A2 k = A2k at *
          generalize L2 k = L2k at *
          generalize C2 k = C2k at *
          go_wp2_with fail
          go_quiet (fail)
          have HB1 := hd (HA.out.step (below_drewN (Below.refl _ _) nq))
          clear HA c2 min2
          go_wp2_with fail
          refine (AS.add HB1.out.swap (S2.out.ap HB1.out.bel HB1.out.ny) Y2.out (by have := HK.out; omega)).mono ?_
          rintro e w6 ⟨rfl, has⟩
          obtain ⟨vb', w7, hrun, has5⟩ := has.app (S2.out.keep has.bel) (by have := HK.out; have := M2.out; omega)
          have HR2 := hd hrun
          have HB5 := hd has5.swap
          clear has hrun has5 HB1
          go_wp2_with (at_builtin; refine wpList_append_run _ rfl _ _ _ _ rfl _ _ rfl rfl vb' w7 HR2.out ?_)
          go_roundw
          case rel => exact ⟨k + 1, la, lb ++ m2, by omega, by go_num, (by have := HK.out; omega), (by have := HK.out; have := M2.out; rw [List.length_append]; omega), HB5.out⟩
          case measure => simp [intOf]; omega
        · have h1' : ¬ ((k : Int) < (llen : Int)) := by omega
          have h2' : ¬ ((k : Int) < (mlen : Int)) := by omega
          go_wp2_with fail
          go_roundw
          case rel => exact ⟨k + 1, la, lb, by omega, by go_num, (by have := HK.out; omega), (by have := HK.out; omega), HA.out⟩
          case measure => simp [intOf]; omega
    · have hk10 : ¬ ((k : Int) < 10) := by omega
      clear hk hla hlb
      have LA : Hid (la.length ≤ 70368744177664) := hd (by have := HK.out; omega)
      have LB : Hid (lb.length ≤ 70368744177664) := hd (by have := HK.out; omega)
      have ea := fun w => eq28 (Sha.dig la) (dig_len _) w
      have eb := fun w => eq28 (Sha.dig lb) (dig_len _) w
      go_wp2_with fail
      refine (tie_ok HA.out.rx LA.out HA.out.bx).mono ?_
      rintro e w5 ⟨rfl, hk5⟩
      have H5 := hd (HA.out.step hk5)
      clear hk5 HA
      go_wp2_with fail
      refine (of_ok (own_sl H5.out.oa (by have := LA.out; omega)) LA.out H5.out.bx).mono ?_
      rintro e w6 ⟨rfl, hk6⟩
      have H6 := hd (H5.out.step hk6)
      clear hk6 H5
      go_wp2_with fail
      refine (tie_ok H6.out.ry LB.out H6.out.by_).mono ?_
      rintro e w7 ⟨rfl, hk7⟩
      have H7 := hd (H6.out.step hk7)
      clear hk7 H6
      go_wp2_with fail
      refine (of_ok (own_sl H7.out.ob (by have := LB.out; omega)) LB.out H7.out.by_).mono ?_
      rintro e w8 ⟨rfl, hk8⟩
      have H8 := hd (H7.out.step hk8)
      clear hk8 H7
      go_wp2_with fail
      go_ret
      exact ⟨rfl, H8.out.bel⟩

end Go.Proofs.YtopgjeakkpedlaaDoor.knotApart
