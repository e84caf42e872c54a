/- The leaves: words turned, chosen, the most of three. -/
import Derived.Test.YteefpbeglmnilaaDoorProg
import Derived.Test.YteefpbeglmnilaaDoorMem
import Derived.Test.YteefpbeglmnilaaDoorSha
import Derived.Laws.BitsAllLaws
namespace Go.Proofs.YteefpbeglmnilaaDoor
open Go.RowKit
set_option linter.unusedVariables false

theorem bxor (a b : BitVec 32) : bits .xor .u32 (a.toNat : Int) (b.toNat : Int) = ((a ^^^ b).toNat : Int) := by
  rw [u32_xor_nat _ _ a.isLt b.isLt, BitVec.toNat_xor]
theorem band (a b : BitVec 32) : bits .and .u32 (a.toNat : Int) (b.toNat : Int) = ((a &&& b).toNat : Int) := by
  rw [u32_and_nat _ _ a.isLt b.isLt, BitVec.toNat_and]
theorem bor (a b : BitVec 32) : bits .or .u32 (a.toNat : Int) (b.toNat : Int) = ((a ||| b).toNat : Int) := by
  rw [u32_or_nat _ _ a.isLt b.isLt, BitVec.toNat_or]
theorem bnot (a : BitVec 32) : bits .xor .u32 IntKind.u32.max (a.toNat : Int) = ((~~~ a).toNat : Int) := by
  have e : IntKind.u32.max = (((BitVec.allOnes 32).toNat : Nat) : Int) := by decide +kernel
  rw [e, bxor, BitVec.allOnes_xor]
theorem bnot' (a : BitVec 32) : bits .xor .u32 4294967295 (a.toNat : Int) = ((~~~ a).toNat : Int) := bnot a
theorem badd (a b : BitVec 32) : IntKind.u32.wrap ((a.toNat : Int) + (b.toNat : Int)) = ((a + b).toNat : Int) := by
  rw [IntKind.wrap_u32, BitVec.toNat_add]; omega


theorem bshl (x : BitVec 32) (s : Nat) : IntKind.u32.wrap ((x.toNat : Int) * 2 ^ ((s : Int)).toNat) = ((x <<< s).toNat : Int) := by
  rw [Int.toNat_natCast, BitVec.toNat_shiftLeft, Nat.shiftLeft_eq, IntKind.wrap_u32]
  rw [Int.natCast_emod, Int.natCast_mul, Int.natCast_pow]
  rfl
theorem bshr (x : BitVec 32) (s : Nat) : (x.toNat : Int) / 2 ^ ((s : Int)).toNat = ((x >>> s).toNat : Int) := by
  rw [Int.toNat_natCast, BitVec.toNat_ushiftRight, Nat.shiftRight_eq_div_pow]
  rw [Int.natCast_ediv, Int.natCast_pow]
  rfl
theorem neg_and31 : ∀ n : Fin 32, 0 < n.val → bits .and .u64 (IntKind.u64.wrap (-(n.val : Int))) 31 = ((32 - n.val : Nat) : Int) := by decide +kernel

set_option maxHeartbeats 1000000 in
theorem rot_ok (x : BitVec 32) (n : Nat) (h0 : 0 < n) (h1 : n < 32) (w : World) :
    Calls Tryd.prog 63 #[.int .u32 (x.toNat : Int), .int .i64 (-(n : Int))] w fun e w' => e = .returned (.int .u32 ((Sha.rr x n).toNat : Int)) ∧ w' = w := by
  have e1 := neg_and31 ⟨n, h1⟩ h0
  have e2 := bshl x (32 - n)
  have e3 := bshr x n
  have e4 := bor (x <<< (32 - n)) (x >>> n)
  have e5 : IntKind.u64.wrap (32 - ((32 - n : Nat) : Int)) = (n : Int) := by rw [IntKind.wrap_u64]; omega
  have b1 : (0 : Int) ≤ ((32 - n : Nat) : Int) := by omega
  have b2 : ((32 - n : Nat) : Int) ≤ 32 := by omega
  have b3 : (0 : Int) ≤ (n : Int) := by omega
  have b4 : (n : Int) ≤ 32 := by omega
  change bits .or .u32 _ _ = ((Sha.rr x n).toNat : Int) at e4
  generalize ((Sha.rr x n).toNat : Int) = ρ at e4 ⊢
  generalize (x.toNat : Int) = ξ at e2 e3
  generalize ((x <<< (32 - n)).toNat : Int) = α at e2 e4
  generalize ((x >>> n).toNat : Int) = β at e3 e4
  generalize ((32 - n : Nat) : Int) = σ at *
  simp only at e1
  generalize (n : Int) = τ at *
  go_enter Tryd.func63, Tryd.ntmps63
  go_wp2
  go_ret
  exact ⟨rfl, rfl⟩

set_option maxHeartbeats 1000000 in
theorem turned_ok (x : BitVec 32) (n : Nat) (h0 : 0 < n) (h1 : n < 32) (w : World) :
    Calls Tryd.prog 50 #[.int .u32 (x.toNat : Int), .int .i64 (n : Int)] w fun e w' => e = .returned (.int .u32 ((Sha.rr x n).toNat : Int)) ∧ w' = w := by
  obtain ⟨μ, hμ⟩ : ∃ μ, μ = -(n : Int) := ⟨_, rfl⟩
  have h := rot_ok x n h0 h1 w
  rw [← hμ] at h
  have H := hd h
  have e1 : IntKind.i64.wrap (-(n : Int)) = μ := by rw [IntKind.wrap_i64]; omega
  clear hμ h h0 h1
  generalize (x.toNat : Int) = ξ at *
  generalize ((Sha.rr x n).toNat : Int) = ρ at *
  generalize (n : Int) = ν at *
  go_enter Tryd.func50, Tryd.ntmps50
  go_wp2_with fail
  refine H.out.mono ?_
  rintro e w1 ⟨rfl, rfl⟩
  go_wp2_with fail
  go_ret
  exact ⟨rfl, rfl⟩

set_option maxHeartbeats 1000000 in
theorem ch_ok (x y z : BitVec 32) (w : World) :
    Calls Tryd.prog 51 #[.int .u32 (x.toNat : Int), .int .u32 (y.toNat : Int), .int .u32 (z.toNat : Int)] w fun e w' => e = .returned (.int .u32 ((Sha.ch x y z).toNat : Int)) ∧ w' = w := by
  have e1 := band x y
  have e2 := bnot x
  have e3 := band (~~~ x) z
  have e4 := bor (x &&& y) (~~~ x &&& z)
  change bits .or .u32 _ _ = ((Sha.ch x y z).toNat : Int) at e4
  generalize ((Sha.ch x y z).toNat : Int) = ρ at e4 ⊢
  generalize ((~~~ x).toNat : Int) = ξ' at *
  generalize (x.toNat : Int) = ξ at *
  generalize (y.toNat : Int) = υ at *
  generalize (z.toNat : Int) = ζ at *
  generalize ((x &&& y).toNat : Int) = α at *
  generalize ((~~~ x &&& z).toNat : Int) = β at *
  go_enter Tryd.func51, Tryd.ntmps51
  go_wp2
  all_goals go_ret
  all_goals exact ⟨rfl, rfl⟩

set_option maxHeartbeats 1000000 in
theorem mj_ok (x y z : BitVec 32) (w : World) :
    Calls Tryd.prog 52 #[.int .u32 (x.toNat : Int), .int .u32 (y.toNat : Int), .int .u32 (z.toNat : Int)] w fun e w' => e = .returned (.int .u32 ((Sha.mj x y z).toNat : Int)) ∧ w' = w := by
  have e1 := band x y
  have e2 := band x z
  have e3 := band y z
  have e4 := bor (x &&& y) (x &&& z)
  have e5 := bor ((x &&& y) ||| (x &&& z)) (y &&& z)
  change bits .or .u32 _ _ = ((Sha.mj x y z).toNat : Int) at e5
  generalize ((Sha.mj x y z).toNat : Int) = ρ at e5 ⊢
  generalize (x.toNat : Int) = ξ at *
  generalize (y.toNat : Int) = υ at *
  generalize (z.toNat : Int) = ζ at *
  generalize ((x &&& y ||| x &&& z).toNat : Int) = γ at *
  generalize ((x &&& y).toNat : Int) = α at *
  generalize ((x &&& z).toNat : Int) = β at *
  generalize ((y &&& z).toNat : Int) = δ at *
  go_enter Tryd.func52, Tryd.ntmps52
  go_wp2
  all_goals go_ret
  all_goals exact ⟨rfl, rfl⟩

end Go.Proofs.YteefpbeglmnilaaDoor
