/- The document's digit and Text. -/
import Derived.Test.YtcgimbomandjfaaWa
namespace Go.Proofs.Ytcgimbomandjfaa
open Go.RowKit
set_option linter.unusedVariables false

theorem ex1 : ∀ d : Fin 16, figs.extract d.val (d.val + 1) = ⟨#[fgc d.val]⟩ := by decide +kernel
theorem ex1' (d : Nat) (h : d < 16) : (⟨#[48, 49, 50, 51, 52, 53, 54, 55, 56, 57, 97, 98, 99, 100, 101, 102]⟩ : ByteArray).extract d (d + 1) = ⟨#[fgc d]⟩ := ex1 ⟨d, h⟩

set_option maxRecDepth 100000 in
set_option maxHeartbeats 2000000 in
theorem rtext_bad (x p : Int) (w : World) (h : okL x = false) :
    Calls Try.prog 31 #[.agg #[.int .i64 x, .int .u32 p]] w fun e w' => VEnd w (.string ⟨#[]⟩) e w' := by
  have H := hd h
  clear h
  go_enter Try.func31, Try.ntmps31
  go_wp2_with fail
  refine (may_any x p _).mono ?_
  rintro e w2 ⟨rfl, hk⟩
  have B := hd (below_below (below1 w (Obj.cells #[Value.int IntKind.i64 x, Value.int IntKind.u32 p] 24)) hk)
  clear hk
  rw [H.out]
  go_wp2_with fail
  go_ret
  exact VEnd.mk B.out

set_option maxRecDepth 100000 in
set_option maxHeartbeats 2000000 in
theorem rtext_ok (x p : Nat) (w : World) (hx : x ≤ 7) (hp : p < 4294967296) :
    Calls Try.prog 31 #[.agg #[.int .i64 (x : Int), .int .u32 (p : Int)]] w fun e w' => VEnd w (.string (textOf x p)) e w' := by
  have H : Hid (okL (x : Int) = true) := hd (by unfold okL; simp; omega)
  have HX : Hid ((⟨#[48, 49, 50, 51, 52, 53, 54, 55, 56, 57, 97, 98, 99, 100, 101, 102]⟩ : ByteArray).extract x (x + 1) = ⟨#[fgc x]⟩) := hd (ex1' x (by omega))
  have hx0 : (0 : Int) ≤ (x : Int) := by omega
  have hx7 : (x : Int) ≤ 7 := by omega
  have hx8 : (x : Int) + 1 ≤ 16 := by omega
  have hx9 : (x : Int) ≤ (x : Int) + 1 := by omega
  have hwr : IntKind.i64.wrap ((x : Int) + 1) = (x : Int) + 1 := wraps_i64' _ (by omega) (by omega)
  go_enter Try.func31, Try.ntmps31
  go_wp2_with fail
  have A1 := Lb.new w (x : Int) (p : Int)
  have B1 := below1 w (Obj.cells #[Value.int IntKind.i64 (x : Int), Value.int IntKind.u32 (p : Int)] 24)
  generalize w.alloc (Obj.cells #[Value.int IntKind.i64 (x : Int), Value.int IntKind.u32 (p : Int)] 24) = w1 at *
  refine (may_any (x : Int) (p : Int) w1).mono ?_
  rintro e w2 ⟨rfl, hk⟩
  have B2 := hd (below_below B1 hk)
  have A2 := hd (A1.keep hk)
  have c0 := A2.out.c0
  have c1 := A2.out.c1
  clear hk A1 B1
  rw [H.out]
  by_cases h0 : p = 0
  · subst h0
    have HT : Hid (textOf x 0 = ⟨#[fgc x]⟩) := hd (by unfold textOf; rw [if_pos rfl])
    go_wp2_with fail
    go_ret
    exact VEnd.eq (VEnd.mk B2.out) (by rw [HT.out, ← HX.out]; rfl)
  · have h0' : ((p : Int) == 0) = false := by rw [beq_eq_false_iff_ne]; omega
    have HT : Hid (textOf x p = ⟨(fgc x :: 58 :: text8 p).toArray⟩) := hd (by unfold textOf; rw [if_neg h0])
    have hand : ∀ n : Nat, n < 4294967296 → bits .and .u32 (n : Int) 15 = ((n % 16 : Nat) : Int) := fun n hn => by
      have e := u32_and_nat n 15 hn (by omega)
      rw [Nat.and_two_pow_sub_one_eq_mod n 4] at e
      exact e
    obtain ⟨d0, hd0⟩ : ∃ d, p / 268435456 % 16 = d := ⟨_, rfl⟩
    have k0 : bits .and .u32 ((p : Int) / 268435456) 15 = (d0 : Int) := by
      have e := hand (p / 268435456) (by omega)
      rw [hd0] at e
      rw [show ((p / 268435456 : Nat) : Int) = (p : Int) / 268435456 by omega] at e
      exact e
    have E0 := hd (ex1' d0 (by omega))
    have a0 : ((d0 : Int) + 1) % 4294967296 = (d0 : Int) + 1 := by omega
    have b0 : (d0 : Int) + 1 ≤ 16 := by omega
    have g0 : (d0 : Int) ≤ (d0 : Int) + 1 := by omega
    have z0 : (0 : Int) ≤ (d0 : Int) := by omega
    obtain ⟨d1, hd1⟩ : ∃ d, p / 16777216 % 16 = d := ⟨_, rfl⟩
    have k1 : bits .and .u32 ((p : Int) / 16777216) 15 = (d1 : Int) := by
      have e := hand (p / 16777216) (by omega)
      rw [hd1] at e
      rw [show ((p / 16777216 : Nat) : Int) = (p : Int) / 16777216 by omega] at e
      exact e
    have E1 := hd (ex1' d1 (by omega))
    have a1 : ((d1 : Int) + 1) % 4294967296 = (d1 : Int) + 1 := by omega
    have b1 : (d1 : Int) + 1 ≤ 16 := by omega
    have g1 : (d1 : Int) ≤ (d1 : Int) + 1 := by omega
    have z1 : (0 : Int) ≤ (d1 : Int) := by omega
    obtain ⟨d2, hd2⟩ : ∃ d, p / 1048576 % 16 = d := ⟨_, rfl⟩
    have k2 : bits .and .u32 ((p : Int) / 1048576) 15 = (d2 : Int) := by
      have e := hand (p / 1048576) (by omega)
      rw [hd2] at e
      rw [show ((p / 1048576 : Nat) : Int) = (p : Int) / 1048576 by omega] at e
      exact e
    have E2 := hd (ex1' d2 (by omega))
    have a2 : ((d2 : Int) + 1) % 4294967296 = (d2 : Int) + 1 := by omega
    have b2 : (d2 : Int) + 1 ≤ 16 := by omega
    have g2 : (d2 : Int) ≤ (d2 : Int) + 1 := by omega
    have z2 : (0 : Int) ≤ (d2 : Int) := by omega
    obtain ⟨d3, hd3⟩ : ∃ d, p / 65536 % 16 = d := ⟨_, rfl⟩
    have k3 : bits .and .u32 ((p : Int) / 65536) 15 = (d3 : Int) := by
      have e := hand (p / 65536) (by omega)
      rw [hd3] at e
      rw [show ((p / 65536 : Nat) : Int) = (p : Int) / 65536 by omega] at e
      exact e
    have E3 := hd (ex1' d3 (by omega))
    have a3 : ((d3 : Int) + 1) % 4294967296 = (d3 : Int) + 1 := by omega
    have b3 : (d3 : Int) + 1 ≤ 16 := by omega
    have g3 : (d3 : Int) ≤ (d3 : Int) + 1 := by omega
    have z3 : (0 : Int) ≤ (d3 : Int) := by omega
    obtain ⟨d4, hd4⟩ : ∃ d, p / 4096 % 16 = d := ⟨_, rfl⟩
    have k4 : bits .and .u32 ((p : Int) / 4096) 15 = (d4 : Int) := by
      have e := hand (p / 4096) (by omega)
      rw [hd4] at e
      rw [show ((p / 4096 : Nat) : Int) = (p : Int) / 4096 by omega] at e
      exact e
    have E4 := hd (ex1' d4 (by omega))
    have a4 : ((d4 : Int) + 1) % 4294967296 = (d4 : Int) + 1 := by omega
    have b4 : (d4 : Int) + 1 ≤ 16 := by omega
    have g4 : (d4 : Int) ≤ (d4 : Int) + 1 := by omega
    have z4 : (0 : Int) ≤ (d4 : Int) := by omega
    obtain ⟨d5, hd5⟩ : ∃ d, p / 256 % 16 = d := ⟨_, rfl⟩
    have k5 : bits .and .u32 ((p : Int) / 256) 15 = (d5 : Int) := by
      have e := hand (p / 256) (by omega)
      rw [hd5] at e
      rw [show ((p / 256 : Nat) : Int) = (p : Int) / 256 by omega] at e
      exact e
    have E5 := hd (ex1' d5 (by omega))
    have a5 : ((d5 : Int) + 1) % 4294967296 = (d5 : Int) + 1 := by omega
    have b5 : (d5 : Int) + 1 ≤ 16 := by omega
    have g5 : (d5 : Int) ≤ (d5 : Int) + 1 := by omega
    have z5 : (0 : Int) ≤ (d5 : Int) := by omega
    obtain ⟨d6, hd6⟩ : ∃ d, p / 16 % 16 = d := ⟨_, rfl⟩
    have k6 : bits .and .u32 ((p : Int) / 16) 15 = (d6 : Int) := by
      have e := hand (p / 16) (by omega)
      rw [hd6] at e
      rw [show ((p / 16 : Nat) : Int) = (p : Int) / 16 by omega] at e
      exact e
    have E6 := hd (ex1' d6 (by omega))
    have a6 : ((d6 : Int) + 1) % 4294967296 = (d6 : Int) + 1 := by omega
    have b6 : (d6 : Int) + 1 ≤ 16 := by omega
    have g6 : (d6 : Int) ≤ (d6 : Int) + 1 := by omega
    have z6 : (0 : Int) ≤ (d6 : Int) := by omega
    obtain ⟨d7, hd7⟩ : ∃ d, p % 16 = d := ⟨_, rfl⟩
    have k7 : bits .and .u32 ((p : Int)) 15 = (d7 : Int) := by
      have e := hand (p) (by omega)
      rw [hd7] at e
      exact e
    have E7 := hd (ex1' d7 (by omega))
    have a7 : ((d7 : Int) + 1) % 4294967296 = (d7 : Int) + 1 := by omega
    have b7 : (d7 : Int) + 1 ≤ 16 := by omega
    have g7 : (d7 : Int) ≤ (d7 : Int) + 1 := by omega
    have z7 : (0 : Int) ≤ (d7 : Int) := by omega
    have H8 : Hid (text8 p = [fgc d0, fgc d1, fgc d2, fgc d3, fgc d4, fgc d5, fgc d6, fgc d7]) := hd (by unfold text8; rw [hd0, hd1, hd2, hd3, hd4, hd5, hd6, hd7])
    clear hand hd0 hd1 hd2 hd3 hd4 hd5 hd6 hd7
    go_wp2_with fail
    go_rounds 9
    go_wp2_with fail
    go_ret
    refine VEnd.eq (VEnd.mk B2.out) ?_
    rw [HT.out, H8.out]
    show Value.string (_ ++ _) = _
    rw [HX.out, E0.out, E1.out, E2.out, E3.out, E4.out, E5.out, E6.out, E7.out]
    rfl

theorem wr4_at : ∀ k : Fin 16, wr4 (figs[k.val]'(by have := k.isLt; exact this)).toNat = (k.val : Int) := by decide +kernel
theorem wr4_no : ∀ c : Fin 256, (∀ k : Fin 16, (figs[k.val]'(by have := k.isLt; exact this)).toNat ≠ c.val) → wr4 c.val = -1 := by decide +kernel

set_option maxRecDepth 100000 in
set_option maxHeartbeats 2000000 in
theorem digit_any (c : Nat) (w : World) (hc : c < 256) :
    Calls Try.prog 48 #[.int .u8 (c : Int)] w fun e w' => VEnd w (.int .i64 (wr4 c)) e w' := by
  obtain ⟨d, hd0⟩ : ∃ d, wr4 c = d := ⟨_, rfl⟩
  rw [hd0]
  have HD := hd hd0
  clear hd0
  go_enter Try.func48, Try.ntmps48
  go_wp2_with fail
  go_loopw [3] (fun i wr => ∃ k : Nat, k ≤ 16 ∧ i = .int .i64 (k : Int) ∧ (∀ j : Fin 16, j.val < k → (figs[j.val]'(by have := j.isLt; exact this)).toNat ≠ c) ∧ Below w.heap.size w wr) (fun i _ => 16 - (intOf i).toNat)
  case atStart => exact ⟨0, Nat.zero_le _, rfl, fun j hj => absurd hj (by omega), Below.refl _ _⟩
  case round =>
    obtain ⟨k, hk, rfl, ha, hb⟩ := hrel
    have HA := hd ha
    have HB := hd hb
    clear ha hb
    by_cases hlt : k < 16
    · have hlt' : (k : Int) < 16 := by omega
      by_cases he : (figs[k]'hlt).toNat = c
      · have he' : (((figs[k]'hlt).toNat : Int) == (c : Int)) = true := by rw [he]; simp
        have HE : Hid ((k : Int) = d) := hd (by rw [← HD.out, ← he]; exact (wr4_at ⟨k, hlt⟩).symm)
        unfold figs at he'
        go_wp2_with fail
        go_ret
        exact VEnd.eq (VEnd.mk HB.out) (by rw [← HE.out]; rfl)
      · have he' : (((figs[k]'hlt).toNat : Int) == (c : Int)) = false := by rw [beq_eq_false_iff_ne]; omega
        have HE := hd he
        unfold figs at he'
        clear he
        go_wp2_with fail
        go_roundw
        case rel =>
          refine ⟨k + 1, by omega, by go_num, fun j hj => ?_, HB.out⟩
          by_cases hjk : j.val = k
          · have e : j = ⟨k, hlt⟩ := Fin.ext hjk
            rw [e]
            exact HE.out
          · exact HA.out j (by omega)
        case measure => simp [intOf]; omega
    · have hk16 : k = 16 := by omega
      subst hk16
      have HE : Hid (d = -1) := hd (by rw [← HD.out]; exact wr4_no ⟨c, hc⟩ (fun j => HA.out j j.isLt))
      go_wp2_with fail
      go_ret
      exact VEnd.eq (VEnd.mk HB.out) (by rw [HE.out]; rfl)

end Go.Proofs.Ytcgimbomandjfaa
