/- Roots. -/
import Derived.Test.YteefpbeglmnilaaDoorRt
namespace Go.Proofs.YteefpbeglmnilaaDoor
open Go.RowKit
set_option linter.unusedVariables false

namespace Sha
/-- The last number below a root, behind k halvings. -/
def lo (f : Nat → Nat) (p : Nat) : Nat → Nat
  | 0 => 0
  | k + 1 => if f (lo f p k + 2 ^ (34 - k)) < p then lo f p k + 2 ^ (34 - k) else lo f p k
end Sha

theorem lo_le (f : Nat → Nat) (p : Nat) : ∀ k, k ≤ 35 → Sha.lo f p k + 2 ^ (35 - k) ≤ 34359738368
  | 0, _ => by simp [Sha.lo]
  | k + 1, h => by
    have ih := lo_le f p k (by omega)
    have e : 35 - k = (34 - k) + 1 := by omega
    rw [e, Nat.pow_succ] at ih
    rw [show 35 - (k + 1) = 34 - k by omega]
    unfold Sha.lo
    split <;> omega

set_option maxHeartbeats 400000 in
theorem root_ok (F : Nat) (w : World) : Calls Tryd.prog 45 #[.func (.func F) #[] #[]] w fun e w' => e = .returned (.func (.func 62) #[] #[.pointer (some ⟨w.heap.size, 0, none⟩)]) ∧ w' = w.alloc (.cells #[.func (.func F) #[] #[]] 88) := by
  go_enter Tryd.func45, Tryd.ntmps45
  go_wp2_with fail
  go_ret
  exact ⟨rfl, rfl⟩

set_option maxHeartbeats 400000 in
theorem root1_ok35 (p : Nat) (box : Nat) (w : World) (hp : p < 4294967296) (h : w.cell? ⟨box, 0, none⟩ = some (.func (.func 46) #[] #[])) :
    Calls Tryd.prog 62 #[.int .u64 (p : Int), .pointer (some ⟨box, 0, none⟩)] w fun e w' => e = .returned (.int .u32 ((Sha.lo Sha.sq p 35 % 4294967296 : Nat) : Int)) ∧ w' = w := by
  go_enter Tryd.func62, Tryd.ntmps62
  go_wp2_with fail
  go_loopw [4, 5] (fun l hh wr => ∃ k : Nat, k ≤ 35 ∧ l = .int .u64 ((Sha.lo Sha.sq p k : Nat) : Int) ∧ hh = .int .u64 ((Sha.lo Sha.sq p k + 2 ^ (35 - k) : Nat) : Int) ∧ wr = w) (fun l hh _ => (intOf hh - intOf l).toNat)
  case atStart => exact ⟨0, Nat.zero_le _, rfl, by simp [Sha.lo], rfl⟩
  case round =>
    obtain ⟨k, hk, rfl, rfl, rfl⟩ := hrel
    have hle := lo_le Sha.sq p k hk
    have HL := hd hle
    by_cases hlt : k < 35
    · have HN : Hid (Sha.lo Sha.sq p (k + 1) = if Sha.sq (Sha.lo Sha.sq p k + 2 ^ (34 - k)) < p then Sha.lo Sha.sq p k + 2 ^ (34 - k) else Sha.lo Sha.sq p k) := rfl
      have e0 : 2 ^ (35 - k) = 2 * 2 ^ (34 - k) := by rw [show 35 - k = (34 - k) + 1 by omega, Nat.pow_succ]; omega
      have e00 : 0 < 2 ^ (34 - k) := Nat.two_pow_pos _
      have HK : Hid (35 - (k + 1) = 34 - k) := hd (by omega)
      generalize Sha.lo Sha.sq p k = l at *
      generalize 2 ^ (35 - k) = d at *
      generalize hdd : 2 ^ (34 - k) = d2 at *
      have HD := hd hdd
      subst e0
      have S := hd (fun w => square_ok (l + d2) (by omega) w)
      have e1 : IntKind.u64.wrap (((l + 2 * d2 : Nat) : Int) - (l : Int)) = ((2 * d2 : Nat) : Int) := by rw [IntKind.wrap_u64]; omega
      have e2 : (1 : Int) < ((2 * d2 : Nat) : Int) := by omega
      have e3 : IntKind.u64.wrap ((l : Int) + ((l + 2 * d2 : Nat) : Int)) = ((2 * l + 2 * d2 : Nat) : Int) := by rw [IntKind.wrap_u64]; omega
      have e4 : ((2 * l + 2 * d2 : Nat) : Int) / 2 = ((l + d2 : Nat) : Int) := by omega
      have e5 : ((2 * l + 2 * d2 : Nat) : Int).tdiv 2 = ((l + d2 : Nat) : Int) := by rw [Int.tdiv_eq_ediv_of_nonneg (by omega)]; omega
      have e6 : IntKind.u64.wrap ((l + d2 : Nat) : Int) = ((l + d2 : Nat) : Int) := by rw [IntKind.wrap_u64]; omega
      clear hdd
      have HH := hd (And.intro hle e00)
      clear hle e00
      by_cases hq : Sha.sq (l + d2) < p
      · have hq' : ((Sha.sq (l + d2) : Nat) : Int) < (p : Int) := by omega
        have HQ := hd hq
        clear hq
        generalize Sha.sq (l + d2) = q at *
        have hm1 : Hid (l + d2 + d2 = l + 2 * d2) := hd (by omega)
        generalize h1 : l + 2 * d2 = u at *
        generalize h2 : 2 * l + 2 * d2 = v at *
        generalize h3 : 2 * d2 = x at *
        generalize h4 : l + d2 = m at *
        have HU := hd (And.intro h1 (And.intro h2 (And.intro h3 h4)))
        clear h1 h2 h3 h4
        go_wp2_with fail
        refine (S.out _).mono ?_
        rintro e w2 ⟨rfl, rfl⟩
        go_wp2_with fail
        go_roundw
        case rel => exact ⟨k + 1, by omega, by rw [HN.out, if_pos HQ.out], by rw [HN.out, if_pos HQ.out, HK.out, HD.out, hm1.out], trivial⟩
        case measure => have := HU.out; have := HH.out; simp only [intOf]; omega
      · have hq' : (p : Int) ≤ ((Sha.sq (l + d2) : Nat) : Int) := by omega
        have hq'' : ¬ ((Sha.sq (l + d2) : Nat) : Int) < (p : Int) := by omega
        have HQ := hd hq
        clear hq
        generalize Sha.sq (l + d2) = q at *
        generalize h1 : l + 2 * d2 = u at *
        generalize h2 : 2 * l + 2 * d2 = v at *
        generalize h3 : 2 * d2 = x at *
        generalize h4 : l + d2 = m at *
        have HU := hd (And.intro h1 (And.intro h2 (And.intro h3 h4)))
        clear h1 h2 h3 h4
        go_wp2_with fail
        refine (S.out _).mono ?_
        rintro e w2 ⟨rfl, rfl⟩
        go_wp2_with fail
        go_roundw
        case rel => exact ⟨k + 1, by omega, by rw [HN.out, if_neg HQ.out], by rw [HN.out, if_neg HQ.out, HK.out, HD.out, HU.out.2.2.2], trivial⟩
        case measure => have := HU.out; have := HH.out; simp only [intOf]; omega
    · have hk35 : k = 35 := by omega
      subst hk35
      have HE : Hid (Sha.lo Sha.sq p 35 + 1 ≤ 34359738368) := HL.out
      clear HL hle
      have e1 : IntKind.u64.wrap (((Sha.lo Sha.sq p 35 + 2 ^ (35 - 35) : Nat) : Int) - ((Sha.lo Sha.sq p 35 : Nat) : Int)) = 1 := by have := HE.out; rw [IntKind.wrap_u64]; simp; omega
      have e2 : IntKind.u32.wrap ((Sha.lo Sha.sq p 35 : Nat) : Int) = ((Sha.lo Sha.sq p 35 % 4294967296 : Nat) : Int) := by rw [IntKind.wrap_u32]; omega
      generalize Sha.lo Sha.sq p 35 + 2 ^ (35 - 35) = u at *
      generalize hρ : ((Sha.lo Sha.sq p 35 % 4294967296 : Nat) : Int) = ρ at *
      have HP := hd hρ
      clear hρ
      generalize ((Sha.lo Sha.sq p 35 : Nat) : Int) = l at *
      go_wp2_with fail
      go_ret
      exact ⟨by rw [HP.out]; rfl, rfl⟩

set_option maxHeartbeats 400000 in
theorem root1_ok36 (p : Nat) (box : Nat) (w : World) (hp : p < 4294967296) (h : w.cell? ⟨box, 0, none⟩ = some (.func (.func 47) #[] #[])) :
    Calls Tryd.prog 62 #[.int .u64 (p : Int), .pointer (some ⟨box, 0, none⟩)] w fun e w' => e = .returned (.int .u32 ((Sha.lo Sha.cu p 35 % 4294967296 : Nat) : Int)) ∧ w' = w := by
  go_enter Tryd.func62, Tryd.ntmps62
  go_wp2_with fail
  go_loopw [4, 5] (fun l hh wr => ∃ k : Nat, k ≤ 35 ∧ l = .int .u64 ((Sha.lo Sha.cu p k : Nat) : Int) ∧ hh = .int .u64 ((Sha.lo Sha.cu p k + 2 ^ (35 - k) : Nat) : Int) ∧ wr = w) (fun l hh _ => (intOf hh - intOf l).toNat)
  case atStart => exact ⟨0, Nat.zero_le _, rfl, by simp [Sha.lo], rfl⟩
  case round =>
    obtain ⟨k, hk, rfl, rfl, rfl⟩ := hrel
    have hle := lo_le Sha.cu p k hk
    have HL := hd hle
    by_cases hlt : k < 35
    · have HN : Hid (Sha.lo Sha.cu p (k + 1) = if Sha.cu (Sha.lo Sha.cu p k + 2 ^ (34 - k)) < p then Sha.lo Sha.cu p k + 2 ^ (34 - k) else Sha.lo Sha.cu p k) := rfl
      have e0 : 2 ^ (35 - k) = 2 * 2 ^ (34 - k) := by rw [show 35 - k = (34 - k) + 1 by omega, Nat.pow_succ]; omega
      have e00 : 0 < 2 ^ (34 - k) := Nat.two_pow_pos _
      have HK : Hid (35 - (k + 1) = 34 - k) := hd (by omega)
      generalize Sha.lo Sha.cu p k = l at *
      generalize 2 ^ (35 - k) = d at *
      generalize hdd : 2 ^ (34 - k) = d2 at *
      have HD := hd hdd
      subst e0
      have S := hd (fun w => cube_ok (l + d2) (by omega) w)
      have e1 : IntKind.u64.wrap (((l + 2 * d2 : Nat) : Int) - (l : Int)) = ((2 * d2 : Nat) : Int) := by rw [IntKind.wrap_u64]; omega
      have e2 : (1 : Int) < ((2 * d2 : Nat) : Int) := by omega
      have e3 : IntKind.u64.wrap ((l : Int) + ((l + 2 * d2 : Nat) : Int)) = ((2 * l + 2 * d2 : Nat) : Int) := by rw [IntKind.wrap_u64]; omega
      have e4 : ((2 * l + 2 * d2 : Nat) : Int) / 2 = ((l + d2 : Nat) : Int) := by omega
      have e5 : ((2 * l + 2 * d2 : Nat) : Int).tdiv 2 = ((l + d2 : Nat) : Int) := by rw [Int.tdiv_eq_ediv_of_nonneg (by omega)]; omega
      have e6 : IntKind.u64.wrap ((l + d2 : Nat) : Int) = ((l + d2 : Nat) : Int) := by rw [IntKind.wrap_u64]; omega
      clear hdd
      have HH := hd (And.intro hle e00)
      clear hle e00
      by_cases hq : Sha.cu (l + d2) < p
      · have hq' : ((Sha.cu (l + d2) : Nat) : Int) < (p : Int) := by omega
        have HQ := hd hq
        clear hq
        generalize Sha.cu (l + d2) = q at *
        have hm1 : Hid (l + d2 + d2 = l + 2 * d2) := hd (by omega)
        generalize h1 : l + 2 * d2 = u at *
        generalize h2 : 2 * l + 2 * d2 = v at *
        generalize h3 : 2 * d2 = x at *
        generalize h4 : l + d2 = m at *
        have HU := hd (And.intro h1 (And.intro h2 (And.intro h3 h4)))
        clear h1 h2 h3 h4
        go_wp2_with fail
        refine (S.out _).mono ?_
        rintro e w2 ⟨rfl, rfl⟩
        go_wp2_with fail
        go_roundw
        case rel => exact ⟨k + 1, by omega, by rw [HN.out, if_pos HQ.out], by rw [HN.out, if_pos HQ.out, HK.out, HD.out, hm1.out], trivial⟩
        case measure => have := HU.out; have := HH.out; simp only [intOf]; omega
      · have hq' : (p : Int) ≤ ((Sha.cu (l + d2) : Nat) : Int) := by omega
        have hq'' : ¬ ((Sha.cu (l + d2) : Nat) : Int) < (p : Int) := by omega
        have HQ := hd hq
        clear hq
        generalize Sha.cu (l + d2) = q at *
        generalize h1 : l + 2 * d2 = u at *
        generalize h2 : 2 * l + 2 * d2 = v at *
        generalize h3 : 2 * d2 = x at *
        generalize h4 : l + d2 = m at *
        have HU := hd (And.intro h1 (And.intro h2 (And.intro h3 h4)))
        clear h1 h2 h3 h4
        go_wp2_with fail
        refine (S.out _).mono ?_
        rintro e w2 ⟨rfl, rfl⟩
        go_wp2_with fail
        go_roundw
        case rel => exact ⟨k + 1, by omega, by rw [HN.out, if_neg HQ.out], by rw [HN.out, if_neg HQ.out, HK.out, HD.out, HU.out.2.2.2], trivial⟩
        case measure => have := HU.out; have := HH.out; simp only [intOf]; omega
    · have hk35 : k = 35 := by omega
      subst hk35
      have HE : Hid (Sha.lo Sha.cu p 35 + 1 ≤ 34359738368) := HL.out
      clear HL hle
      have e1 : IntKind.u64.wrap (((Sha.lo Sha.cu p 35 + 2 ^ (35 - 35) : Nat) : Int) - ((Sha.lo Sha.cu p 35 : Nat) : Int)) = 1 := by have := HE.out; rw [IntKind.wrap_u64]; simp; omega
      have e2 : IntKind.u32.wrap ((Sha.lo Sha.cu p 35 : Nat) : Int) = ((Sha.lo Sha.cu p 35 % 4294967296 : Nat) : Int) := by rw [IntKind.wrap_u32]; omega
      generalize Sha.lo Sha.cu p 35 + 2 ^ (35 - 35) = u at *
      generalize hρ : ((Sha.lo Sha.cu p 35 % 4294967296 : Nat) : Int) = ρ at *
      have HP := hd hρ
      clear hρ
      generalize ((Sha.lo Sha.cu p 35 : Nat) : Int) = l at *
      go_wp2_with fail
      go_ret
      exact ⟨by rw [HP.out]; rfl, rfl⟩

end Go.Proofs.YteefpbeglmnilaaDoor
