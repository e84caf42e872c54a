/- Products of 128 bits, squares, cubes; roots by halving. -/
import Derived.Test.YteefpbeglmnilaaDoorArr
import Derived.Shelf.Bits.Mul64
namespace Go.Proofs.YteefpbeglmnilaaDoor
open Go.RowKit Go.Shelf
set_option linter.unusedVariables false

def renM : Ren := ⟨fun n => if n = 264 then 40 else 0, fun n => if n = 46 then 46 else if n = 53 then 76 else 0, fun _ => 0⟩
theorem laysM : Lays.n264 Tryd.prog renM :=
  ⟨by kernel_rfl, by kernel_rfl, by kernel_rfl, Tryd.isAgg46, Tryd.sizeOf46, Tryd.zeroValue46, by kernel_rfl, Tryd.isAgg76, Tryd.sizeOf76, Tryd.zeroValue76⟩
theorem mul64_ok (x y : Nat) (hx : x < 18446744073709551616) (hy : y < 18446744073709551616) (w : World) :
    Calls Tryd.prog 40 #[.int .u64 x, .int .u64 y] w fun e w' => e = .returned (.tuple #[.int .u64 ((x * y / 18446744073709551616 : Nat) : Int), .int .u64 ((x * y % 18446744073709551616 : Nat) : Int)]) ∧ w' = w := Any.bits_Mul64 laysM x y hx hy w

namespace Sha
/-- What is ahead of the point of a number's square, of its cube (32 bits of the number are behind the point). -/
def sq (x : Nat) : Nat := x * x / 18446744073709551616
def cu (x : Nat) : Nat := x * x * x / 79228162514264337593543950336
end Sha

theorem cu_eq (x : Nat) (hx : x < 34359738368) : (x * x / 18446744073709551616 * x % 18446744073709551616 + x * x % 18446744073709551616 * x / 18446744073709551616) % 18446744073709551616 / 4294967296 = Sha.cu x := by
  have h1 : x * x < 34359738368 * 34359738368 := Nat.mul_lt_mul'' hx hx
  have h2 : x * x / 18446744073709551616 < 64 := by omega
  have h3 : x * x / 18446744073709551616 * x < 64 * 34359738368 := Nat.mul_lt_mul'' h2 hx
  have h4 : x * x % 18446744073709551616 * x < 18446744073709551616 * 34359738368 := Nat.mul_lt_mul'' (by omega) hx
  rw [Nat.mod_eq_of_lt (by omega), Nat.mod_eq_of_lt (by omega)]
  unfold Sha.cu
  have e1 : x * x * x = (x * x / 18446744073709551616 * x) * 18446744073709551616 + x * x % 18446744073709551616 * x := by
    have := Nat.div_add_mod (x * x) 18446744073709551616
    calc x * x * x = (18446744073709551616 * (x * x / 18446744073709551616) + x * x % 18446744073709551616) * x := by rw [this]
      _ = _ := by rw [Nat.add_mul, Nat.mul_comm 18446744073709551616, Nat.mul_assoc, Nat.mul_comm 18446744073709551616, ← Nat.mul_assoc]
  rw [e1]
  omega

set_option maxHeartbeats 1000000 in
theorem square_ok (x : Nat) (hx : x < 34359738368) (w : World) :
    Calls Tryd.prog 46 #[.int .u64 (x : Int)] w fun e w' => e = .returned (.int .u64 ((Sha.sq x : Nat) : Int)) ∧ w' = w := by
  have H := hd (mul64_ok x x (by omega) (by omega) w)
  unfold Sha.sq
  generalize ((x * x / 18446744073709551616 : Nat) : Int) = α at *
  generalize ((x * x % 18446744073709551616 : Nat) : Int) = β at *
  generalize (x : Int) = ξ at *
  go_enter Tryd.func46, Tryd.ntmps46
  go_wp2_with fail
  refine H.out.mono ?_
  rintro e w1 ⟨rfl, rfl⟩
  go_wp2_with fail
  go_ret
  exact ⟨rfl, rfl⟩

set_option maxHeartbeats 1000000 in
theorem cube_ok (x : Nat) (hx : x < 34359738368) (w : World) :
    Calls Tryd.prog 47 #[.int .u64 (x : Int)] w fun e w' => e = .returned (.int .u64 ((Sha.cu x : Nat) : Int)) ∧ w' = w := by
  have h1 : x * x < 34359738368 * 34359738368 := Nat.mul_lt_mul'' hx hx
  have H := hd (mul64_ok x x (by omega) (by omega) w)
  have J := hd (mul64_ok (x * x % 18446744073709551616) x (by omega) (by omega) w)
  have e0 := cu_eq x hx
  have e1 : IntKind.u64.wrap (((x * x / 18446744073709551616 : Nat) : Int) * (x : Int)) = ((x * x / 18446744073709551616 * x % 18446744073709551616 : Nat) : Int) := by
    rw [← Int.natCast_mul, IntKind.wrap_u64]; omega
  have e2 : IntKind.u64.wrap (((x * x / 18446744073709551616 * x % 18446744073709551616 : Nat) : Int) + ((x * x % 18446744073709551616 * x / 18446744073709551616 : Nat) : Int)) = (((x * x / 18446744073709551616 * x % 18446744073709551616 + x * x % 18446744073709551616 * x / 18446744073709551616) % 18446744073709551616 : Nat) : Int) := by
    rw [IntKind.wrap_u64]; omega
  have e3 : (((x * x / 18446744073709551616 * x % 18446744073709551616 + x * x % 18446744073709551616 * x / 18446744073709551616) % 18446744073709551616 : Nat) : Int) / 4294967296 = ((Sha.cu x : Nat) : Int) := by
    rw [← e0]; omega
  clear e0 h1 hx
  generalize ((Sha.cu x : Nat) : Int) = κ at *
  generalize (((x * x / 18446744073709551616 * x % 18446744073709551616 + x * x % 18446744073709551616 * x / 18446744073709551616) % 18446744073709551616 : Nat) : Int) = δ at *
  generalize ((x * x / 18446744073709551616 * x % 18446744073709551616 : Nat) : Int) = γ at *
  generalize ((x * x % 18446744073709551616 * x / 18446744073709551616 : Nat) : Int) = ε at *
  generalize ((x * x % 18446744073709551616 * x % 18446744073709551616 : Nat) : Int) = φ at *
  generalize ((x * x / 18446744073709551616 : Nat) : Int) = α at *
  generalize ((x * x % 18446744073709551616 : Nat) : Int) = β at *
  generalize (x : Int) = ξ at *
  go_enter Tryd.func47, Tryd.ntmps47
  go_wp2_with fail
  refine H.out.mono ?_
  rintro e w1 ⟨rfl, rfl⟩
  go_wp2_with fail
  refine J.out.mono ?_
  rintro e w1 ⟨rfl, rfl⟩
  go_wp2_with fail
  go_ret
  exact ⟨rfl, rfl⟩

end Go.Proofs.YteefpbeglmnilaaDoor
