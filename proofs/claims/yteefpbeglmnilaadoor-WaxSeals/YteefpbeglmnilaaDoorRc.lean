/- Numbers of digits held against one another; primes by trial; words turned: as the document's answer reckons them. -/
import Derived.Test.YteefpbeglmnilaaDoorRb
namespace Go.Proofs.YteefpbeglmnilaaDoor
open Go.RowKit
set_option linter.unusedVariables false

set_option maxRecDepth 100000 in
set_option maxHeartbeats 1000000 in
theorem atMost_ok (b : Nat) (w : World) (l : List Nat) (p k : Nat) (hl : l.length < 100) (hk : k < l.length) (h : Row w b 76 (qv l)) :
    Calls Tryd.prog 65 #[.slice (some ⟨b, 0, none⟩) l.length l.length, .int .u64 (p : Int), .int .i64 (k : Int)] w fun e w' => e = .returned (.bool (Ref.atM l p k)) ∧ Below w.heap.size w w' := by
  have S0 : Hid (TmW w (w.alloc (.cells (qv (List.replicate l.length 0)).toArray 76)) b l (List.replicate l.length 0) l.length) :=
    ⟨(Below.refl _ _).alloc (Nat.le_refl _) _, h.alloc _, Row.new w 76 _, h.lt, by simp⟩
  have mk := run_make92 l.length (by omega) w
  have HT : Hid (Ref.atM l p k = Ref.cmp l ((List.replicate l.length 0).set k p) l.length) := rfl
  have hr : (List.replicate l.length 0).length = l.length := List.length_replicate
  generalize hm : l.length = m at *
  have HM := hd hm
  clear hm h
  have hk' : (k : Int) < (m : Int) := by omega
  have f0 := S0.out.out.frozen k
  have c0 := S0.out.out.get (qv_get (List.replicate m 0) k (by rw [hr]; exact hk))
  have S1 := hd (S0.out.set k p)
  clear S0 hr
  generalize (List.replicate m 0).set k p = o at *
  generalize ((Ref.at_ (List.replicate m 0) k : Nat) : Int) = ζ at *
  generalize w.alloc (.cells (qv (List.replicate m 0)).toArray 76) = w0 at *
  have e1 : IntKind.i64.wrap ((m : Int) - 1) = (m : Int) - 1 := by rw [IntKind.wrap_i64]; omega
  go_enter Tryd.func65, Tryd.ntmps65
  go_wp2_with fail
  go_loopw [8] (fun i wr => ∃ j : Nat, j ≤ m ∧ i = .int .i64 ((j : Int) - 1) ∧ Ref.atM l p k = Ref.cmp l o j ∧ TmW w wr b l o m) (fun i _ => (intOf i + 1).toNat)
  case atStart => exact ⟨m, Nat.le_refl _, rfl, HT.out, S1.out⟩
  case round =>
    clear S1 HT
    obtain ⟨j, hj, rfl, hc, hs⟩ := hrel
    have HS := hd hs
    have HC := hd hc
    clear hs hc
    match j with
    | 0 =>
      have HE : Hid (Ref.atM l p k = true) := HC.out
      go_wp2_with fail
      go_ret
      exact ⟨by rw [HE.out]; rfl, HS.out.bel⟩
    | j + 1 =>
      have s1 : ((j + 1 : Nat) : Int) - 1 = (j : Int) := by omega
      rw [s1]
      have hj' : (j : Int) < (m : Int) := by omega
      have s2 : IntKind.i64.wrap ((j : Int) - 1) = (j : Int) - 1 := by rw [IntKind.wrap_i64]; omega
      have c1 := HS.out.src.get (qv_get l j (by have := HM.out; omega))
      have c2 := HS.out.out.get (qv_get o j (by have := HS.out.len; omega))
      have HN : Hid (Ref.cmp l o (j + 1) = if Ref.at_ l j = Ref.at_ o j then Ref.cmp l o j else decide (Ref.at_ l j < Ref.at_ o j)) := rfl
      generalize Ref.at_ l j = x at *
      generalize Ref.at_ o j = y at *
      by_cases hxy : x = y
      · have HE : Hid (Ref.atM l p k = Ref.cmp l o j) := hd (by rw [HC.out, HN.out, if_pos hxy])
        subst hxy
        clear HN HC
        generalize (x : Int) = ξ at *
        go_wp2_with fail
        go_region
        go_wp2_with fail
        go_roundw
        case rel => exact ⟨j, by omega, by go_num, HE.out, HS.out.drewN _⟩
        case measure => simp [intOf]
      · have HE : Hid (Ref.atM l p k = decide (x < y)) := hd (by rw [HC.out, HN.out, if_neg hxy])
        have n1 : ((x : Int) == (y : Int)) = false := by rw [beq_eq_false_iff_ne]; omega
        have HD : Hid (decide ((x : Int) < (y : Int)) = decide (x < y)) := hd (by simp)
        clear HN HC
        generalize (x : Int) = ξ at *
        generalize (y : Int) = υ at *
        go_wp2_with fail
        go_region
        go_wp2_with fail
        go_region
        go_wp2_with fail
        go_ret
        exact ⟨by rw [HE.out, ← HD.out]; rfl, HS.out.bel.drew.drew⟩

theorem nod_lt (x k f : Nat) : Ref.nod x k (f + 1) = if x < k * k then true else if x % k = 0 then false else Ref.nod x (k + 1) f := rfl

set_option maxRecDepth 100000 in
set_option maxHeartbeats 1000000 in
theorem isPrime_ok (x : Nat) (w : World) (hx : x < 900) :
    Calls Tryd.prog 53 #[.int .u64 (x : Int)] w fun e w' => e = .returned (.bool (Ref.isP x)) ∧ w' = w := by
  have HT : Hid (Ref.isP x = Ref.nod x 2 30) := rfl
  go_enter Tryd.func53, Tryd.ntmps53
  go_wp2_with fail
  go_loopw [3] (fun k wr => ∃ j f : Nat, j + f = 32 ∧ 2 ≤ j ∧ k = .int .u64 (j : Int) ∧ Ref.isP x = Ref.nod x j f ∧ wr = w) (fun k _ => 32 - (intOf k).toNat)
  case atStart => exact ⟨2, 30, rfl, Nat.le_refl _, rfl, HT.out, rfl⟩
  case round =>
    clear HT
    obtain ⟨j, f, hjf, h2, rfl, hc, rfl⟩ := hrel
    have HC := hd hc
    clear hc
    by_cases hlt : x < j * j
    · have hf : 0 < f ∨ f = 0 := by omega
      have HE : Hid (Ref.isP x = true) := by
        show Ref.isP x = true
        rw [HC.out]
        match f with
        | 0 => rfl
        | f + 1 => rw [nod_lt, if_pos hlt]
      have e1 : IntKind.u64.wrap ((j : Int) * (j : Int)) = ((j * j : Nat) : Int) := by
        have hj : j ≤ 32 := by omega
        have hjj : j * j ≤ 32 * 32 := Nat.mul_le_mul hj hj
        rw [← Int.natCast_mul, IntKind.wrap_u64]; omega
      have e2 : (x : Int) < ((j * j : Nat) : Int) := by omega
      clear HC
      generalize j * j = q at *
      go_wp2_with fail
      go_ret
      exact ⟨by rw [HE.out]; rfl, rfl⟩
    · have hj : j < 30 := by
        rcases Nat.lt_or_ge j 30 with h | h
        · exact h
        · have : 30 * 30 ≤ j * j := Nat.mul_le_mul h h
          omega
      obtain ⟨f', rfl⟩ : ∃ f', f = f' + 1 := ⟨f - 1, by omega⟩
      have hjj : j * j ≤ 30 * 30 := Nat.mul_le_mul (by omega) (by omega)
      have e1 : IntKind.u64.wrap ((j : Int) * (j : Int)) = ((j * j : Nat) : Int) := by
        rw [← Int.natCast_mul, IntKind.wrap_u64]; omega
      have e2 : ¬ ((x : Int) < ((j * j : Nat) : Int)) := by omega
      have e2' : ((j * j : Nat) : Int) ≤ (x : Int) := by omega
      have e3 : (x : Int).tmod (j : Int) = ((x % j : Nat) : Int) := by rw [Int.tmod_eq_emod_of_nonneg (by omega)]; exact (Int.natCast_emod x j).symm
      have j0 : ¬ ((j : Int) = 0) := by omega
      have j0' : ((j : Int) == 0) = false := by rw [beq_eq_false_iff_ne]; omega
      have HN := hd (nod_lt x j f')
      rw [if_neg hlt] at HN
      clear hlt
      generalize j * j = q at *
      by_cases hm : x % j = 0
      · have HE : Hid (Ref.isP x = false) := hd (by rw [HC.out, HN.out, if_pos hm])
        rw [hm] at e3
        have e3' : (x : Int).tmod (j : Int) = 0 := e3
        clear HN HC hm e3
        go_wp2_with fail
        go_ret
        exact ⟨by rw [HE.out]; rfl, rfl⟩
      · have HE : Hid (Ref.isP x = Ref.nod x (j + 1) f') := hd (by rw [HC.out, HN.out, if_neg hm])
        have hm' : (((x % j : Nat) : Int) == 0) = false := by rw [beq_eq_false_iff_ne]; omega
        have hm2 : ¬ (((x % j : Nat) : Int) = 0) := by omega
        have s1 : IntKind.u64.wrap ((j : Int) + 1) = ((j + 1 : Nat) : Int) := by rw [IntKind.wrap_u64]; omega
        clear HN HC
        generalize x % j = r at *
        go_wp2_with fail
        go_roundw
        case rel => exact ⟨j + 1, f', by omega, by omega, by go_num, HE.out, trivial⟩
        case measure => simp [intOf]; omega

set_option maxHeartbeats 1000000 in
theorem turn_ok (x : BitVec 32) (n : Nat) (h0 : 0 < n) (h1 : n < 32) (w : World) :
    Calls Tryd.prog 55 #[.int .u32 (x.toNat : Int), .int .i64 (n : Int)] w fun e w' => e = .returned (.int .u32 ((Sha.rr x n).toNat : Int)) ∧ ∃ m, w' = w.drewN m := by
  have e2 := bshl x (32 - n)
  have e3 := bshr x n
  have e4 := bor (x >>> n) (x <<< (32 - n))
  have e5 : IntKind.i64.wrap (32 - (n : Int)) = ((32 - n : Nat) : Int) := by rw [IntKind.wrap_i64]; omega
  have b1 : (0 : Int) ≤ ((32 - n : Nat) : Int) := by omega
  have b2 : ((32 - n : Nat) : Int) ≤ 32 := by omega
  have b3 : (0 : Int) ≤ (n : Int) := by omega
  have b4 : (n : Int) ≤ 32 := by omega
  rw [show (x >>> n ||| x <<< (32 - n)) = Sha.rr x n from BitVec.or_comm _ _] at e4
  generalize ((Sha.rr x n).toNat : Int) = ρ at e4 ⊢
  generalize (x.toNat : Int) = ξ at e2 e3
  generalize ((x <<< (32 - n)).toNat : Int) = α at e2 e4
  generalize ((x >>> n).toNat : Int) = β at e3 e4
  generalize ((32 - n : Nat) : Int) = σ at *
  generalize (n : Int) = τ at *
  go_enter Tryd.func55, Tryd.ntmps55
  go_wp2_with fail
  go_region
  go_wp2_with fail
  go_ret
  exact ⟨rfl, 1, rfl⟩
end Go.Proofs.YteefpbeglmnilaaDoor
