/- Roots, as the document's answer reckons them. -/
import Derived.Test.YteefpbeglmnilaaDoorRc
namespace Go.Proofs.YteefpbeglmnilaaDoor
open Go.RowKit
set_option linter.unusedVariables false

theorem times_ok' (b : Nat) (w : World) (l : List Nat) (n L : Nat) (hL : l.length = L) (hn : n < 18446744073709551616) (hl : L < 100) (h : Row w b 76 (qv l)) :
    Calls Tryd.prog 64 #[.slice (some ⟨b, 0, none⟩) L L, .int .u64 (n : Int)] w fun e w' => e = .returned (.slice (some ⟨w.heap.size, 0, none⟩) (L + 3) (L + 3)) ∧ Row w' w.heap.size 76 (qv (Ref.times l n)) ∧ Below w.heap.size w w' := by
  subst hL
  exact times_ok b w l n hn hl h
theorem atMost_ok' (b : Nat) (w : World) (l : List Nat) (p k L : Nat) (hL : l.length = L) (hl : L < 100) (hk : k < L) (h : Row w b 76 (qv l)) :
    Calls Tryd.prog 65 #[.slice (some ⟨b, 0, none⟩) L L, .int .u64 (p : Int), .int .i64 (k : Int)] w fun e w' => e = .returned (.bool (Ref.atM l p k)) ∧ Below w.heap.size w w' := by
  subst hL
  exact atMost_ok b w l p k hl hk h

/-- The row that is multiplied, behind k times. -/
def PwR (w wr : World) (y k : Nat) (v : Value) : Prop := ∃ b, v = .slice (some ⟨b, 0, none⟩) (3 * k + 1) (3 * k + 1) ∧ Row wr b 76 (qv (Ref.pw y k)) ∧ Below w.heap.size w wr

set_option maxRecDepth 100000 in
set_option maxHeartbeats 1000000 in
theorem rroot_ok (p n : Nat) (hn : n = 2 ∨ n = 3) (w : World) :
    Calls Tryd.prog 54 #[.int .u64 (p : Int), .int .i64 (n : Int)] w fun e w' => e = .returned (.int .u32 ((Ref.root p n : Nat) : Int)) ∧ Below w.heap.size w w' := by
  have HN := hd hn
  have h2n : IntKind.i64.wrap (2 * (n : Int)) = ((2 * n : Nat) : Int) := by rw [IntKind.wrap_i64]; omega
  have HT : Hid (Ref.root p n = Ref.rx p n 36 % 4294967296) := rfl
  have H0 : Hid (Ref.rx p n 0 = 0) := rfl
  have HX : Hid (∀ j, Ref.rx p n (j + 1) = if Ref.atM (Ref.pw (Ref.rx p n j + 2 ^ (35 - j)) n) p (2 * n) = true then Ref.rx p n j + 2 ^ (35 - j) else Ref.rx p n j) := fun _ => rfl
  have HL : Hid (∀ j, j ≤ 36 → Ref.rx p n j + 2 ^ (36 - j) ≤ 2 ^ 36) := rxle p n
  have N2 : Hid (2 * n < 3 * n + 1 ∧ 3 * n + 1 < 100) := hd (by omega)
  generalize 2 * n = n2 at *
  clear hn
  generalize Ref.root p n = rt at HT ⊢
  generalize Ref.rx p n = rx at *
  go_enter Tryd.func54, Tryd.ntmps54
  go_wp2_with fail
  go_loopw [5, 6] (fun x i wr => ∃ j D : Nat, j + D = 36 ∧ x = .int .u64 ((rx j : Nat) : Int) ∧ i = .int .i64 ((D : Int) - 1) ∧ Below w.heap.size w wr) (fun _ i _ => (intOf i + 1).toNat)
  case atStart => exact ⟨0, 36, rfl, by rw [H0.out]; rfl, rfl, Below.refl _ _⟩
  case round =>
    obtain ⟨j, D, hjd, rfl, rfl, hb⟩ := hrel
    have HB := hd hb
    clear hb
    match D with
    | 0 =>
      have hj : j = 36 := by omega
      subst hj
      have hle := HL.out 36 (Nat.le_refl _)
      have e1 : IntKind.u32.wrap ((rx 36 : Nat) : Int) = ((rt : Nat) : Int) := by rw [IntKind.wrap_u32, HT.out]; omega
      generalize ((rx 36 : Nat) : Int) = ξ at *
      clear hle HX HL
      go_wp2_with fail
      go_ret
      exact ⟨rfl, HB.out⟩
    | D + 1 =>
      have s1 : ((D + 1 : Nat) : Int) - 1 = (D : Int) := by omega
      rw [s1]
      have s2 : IntKind.i64.wrap ((D : Int) - 1) = (D : Int) - 1 := by rw [IntKind.wrap_i64]; omega
      have hle := HL.out j (by omega)
      have hD : 35 - j = D := by omega
      have HQ := hd (HX.out j)
      rw [hD] at HQ
      have hp2 : 2 ^ (36 - j) = 2 * 2 ^ D := by rw [show 36 - j = D + 1 by omega, Nat.pow_succ]; omega
      rw [hp2] at hle
      have d0 : (0 : Int) ≤ (D : Int) := by omega
      have d1 : (D : Int) < 64 := by omega
      have e1 : IntKind.u64.wrap ((2 : Int) ^ D) = ((2 ^ D : Nat) : Int) := by
        have hc : ((2 : Int) ^ D) = ((2 ^ D : Nat) : Int) := by rw [Int.natCast_pow]; rfl
        rw [hc, IntKind.wrap_u64]; omega
      have e2 : IntKind.u64.wrap (((rx j : Nat) : Int) + ((2 ^ D : Nat) : Int)) = ((rx j + 2 ^ D : Nat) : Int) := by
        rw [IntKind.wrap_u64]; omega
      have HY : Hid (rx j + 2 ^ D < 18446744073709551616) := hd (by omega)
      generalize rx j + 2 ^ D = y at *
      generalize ((2 ^ D : Nat) : Int) = π at *
      have HXJ : Hid (((rx j : Nat) : Int) = ((rx j : Nat) : Int)) := rfl
      clear hle hp2 hD
      go_wp2_with fail
      have P0 : Hid (PwR w (wr.alloc (.cells #[.int .u64 1] 76)) y 0 (.slice (some ⟨wr.heap.size, 0, none⟩) 1 1)) := ⟨wr.heap.size, rfl, Row.new wr 76 _, HB.out.alloc HB.out.size _⟩
      generalize wr.alloc (.cells #[.int .u64 1] 76) = w0 at *
      generalize wr.heap.size = s0 at *
      clear HB
      go_loopw [8, 9] (fun a k wr => ∃ κ : Nat, κ ≤ n ∧ k = .int .i64 (κ : Int) ∧ PwR w wr y κ a) (fun _ k _ => n - (intOf k).toNat)
      case atStart => exact ⟨0, Nat.zero_le _, rfl, P0.out⟩
      case round =>
        clear P0
        obtain ⟨κ, hκ, rfl, b, rfl, hr, hb⟩ := hrel
        have HB := hd hb
        have HR := hd hr
        clear hb hr
        by_cases hlt : κ < n
        · have hlt' : (κ : Int) < (n : Int) := by omega
          have s3 : IntKind.i64.wrap ((κ : Int) + 1) = ((κ + 1 : Nat) : Int) := by have := HN.out; rw [IntKind.wrap_i64]; omega
          have T := hd (fun wv (hh : Row wv b 76 (qv (Ref.pw y κ))) => times_ok' b wv (Ref.pw y κ) y (3 * κ + 1) (pw_len y κ) HY.out (by have := HN.out; omega) hh)
          have HS : Hid (3 * κ + 1 + 3 = 3 * (κ + 1) + 1) := hd (by omega)
          have HP : Hid (Ref.pw y (κ + 1) = Ref.times (Ref.pw y κ) y) := rfl
          generalize 3 * κ + 1 = L at *
          go_wp2_with fail
          refine (T.out _ HR.out).mono ?_
          rintro e w1 ⟨rfl, hr, hb⟩
          have P1 : Hid (PwR w w1 y (κ + 1) (.slice (some ⟨wr.heap.size, 0, none⟩) (L + 3) (L + 3))) := ⟨wr.heap.size, by rw [HS.out], by rw [HP.out]; exact hr, below_below HB.out hb⟩
          clear hr hb HB HR T HS HP
          generalize L + 3 = L3 at *
          generalize wr.heap.size = s1 at *
          go_wp2_with fail
          go_roundw
          case rel => exact ⟨κ + 1, by omega, by go_num, P1.out⟩
          case measure => simp [intOf]; omega
        · have hk : κ = n := by omega
          subst hk
          have A := hd (fun wv (hh : Row wv b 76 (qv (Ref.pw y κ))) => atMost_ok' b wv (Ref.pw y κ) p n2 (3 * κ + 1) (pw_len y κ) N2.out.2 N2.out.1 hh)
          generalize 3 * κ + 1 = L at *
          generalize Ref.pw y κ = pl at *
          go_wp2_with fail
          refine (A.out _ HR.out).mono ?_
          rintro e w1 ⟨rfl, hb⟩
          have B1 : Hid (Below w.heap.size w w1) := hd (below_below HB.out hb)
          clear hb HB HR A
          generalize Ref.atM pl p n2 = t at *
          cases t with
          | true =>
            have HE : Hid (rx (j + 1) = y) := hd (by rw [HQ.out, if_pos rfl])
            go_wp2_with fail
            go_roundw
            case rel => exact ⟨j + 1, D, by omega, by rw [HE.out], by go_num, B1.out⟩
            case measure => simp [intOf]
          | false =>
            have HE : Hid (rx (j + 1) = rx j) := hd (by rw [HQ.out, if_neg (by decide)])
            go_wp2_with fail
            go_roundw
            case rel => exact ⟨j + 1, D, by omega, by rw [HE.out], by go_num, B1.out⟩
            case measure => simp [intOf]
end Go.Proofs.YteefpbeglmnilaaDoor
