/- PolicyKnown: what Parse answers of its texts, as pure functions: nineteen lines that are none. -/
import Derived.Test.YtcigbfjmnhogiabGreatDoorWr
namespace Go.Proofs.YtcigbfjmnhogiabGreatDoor
open Go

/-- `rule`. -/
theorem badM_0 : parseM ⟨#[114, 117, 108, 101, 32, 122, 32, 55, 58, 48, 48, 48, 48, 48, 48, 48, 50, 10, 114, 117, 108, 101]⟩ = (none, 2) := by kernel_rfl
/-- `rule a`. -/
theorem badM_1 : parseM ⟨#[114, 117, 108, 101, 32, 122, 32, 55, 58, 48, 48, 48, 48, 48, 48, 48, 50, 10, 114, 117, 108, 101, 32, 97]⟩ = (none, 2) := by kernel_rfl
/-- `rule a 8`. -/
theorem badM_2 : parseM ⟨#[114, 117, 108, 101, 32, 122, 32, 55, 58, 48, 48, 48, 48, 48, 48, 48, 50, 10, 114, 117, 108, 101, 32, 97, 32, 56]⟩ = (none, 2) := by kernel_rfl
/-- `rule A 1`. -/
theorem badM_3 : parseM ⟨#[114, 117, 108, 101, 32, 122, 32, 55, 58, 48, 48, 48, 48, 48, 48, 48, 50, 10, 114, 117, 108, 101, 32, 65, 32, 49]⟩ = (none, 2) := by kernel_rfl
/-- `rule a 1 `. -/
theorem badM_4 : parseM ⟨#[114, 117, 108, 101, 32, 122, 32, 55, 58, 48, 48, 48, 48, 48, 48, 48, 50, 10, 114, 117, 108, 101, 32, 97, 32, 49, 32]⟩ = (none, 2) := by kernel_rfl
/-- ` rule a 1`. -/
theorem badM_5 : parseM ⟨#[114, 117, 108, 101, 32, 122, 32, 55, 58, 48, 48, 48, 48, 48, 48, 48, 50, 10, 32, 114, 117, 108, 101, 32, 97, 32, 49]⟩ = (none, 2) := by kernel_rfl
/-- `rule  a 1`. -/
theorem badM_6 : parseM ⟨#[114, 117, 108, 101, 32, 122, 32, 55, 58, 48, 48, 48, 48, 48, 48, 48, 50, 10, 114, 117, 108, 101, 32, 32, 97, 32, 49]⟩ = (none, 2) := by kernel_rfl
/-- `rule a 1 2`. -/
theorem badM_7 : parseM ⟨#[114, 117, 108, 101, 32, 122, 32, 55, 58, 48, 48, 48, 48, 48, 48, 48, 50, 10, 114, 117, 108, 101, 32, 97, 32, 49, 32, 50]⟩ = (none, 2) := by kernel_rfl
/-- `rules a 1`. -/
theorem badM_8 : parseM ⟨#[114, 117, 108, 101, 32, 122, 32, 55, 58, 48, 48, 48, 48, 48, 48, 48, 50, 10, 114, 117, 108, 101, 115, 32, 97, 32, 49]⟩ = (none, 2) := by kernel_rfl
/-- `reader a 1 2`. -/
theorem badM_9 : parseM ⟨#[114, 117, 108, 101, 32, 122, 32, 55, 58, 48, 48, 48, 48, 48, 48, 48, 50, 10, 114, 101, 97, 100, 101, 114, 32, 97, 32, 49, 32, 50]⟩ = (none, 2) := by kernel_rfl
/-- `reader a 1 1 5`. -/
theorem badM_10 : parseM ⟨#[114, 117, 108, 101, 32, 122, 32, 55, 58, 48, 48, 48, 48, 48, 48, 48, 50, 10, 114, 101, 97, 100, 101, 114, 32, 97, 32, 49, 32, 49, 32, 53]⟩ = (none, 2) := by kernel_rfl
/-- `reader a 1 1001 5`. -/
theorem badM_11 : parseM ⟨#[114, 117, 108, 101, 32, 122, 32, 55, 58, 48, 48, 48, 48, 48, 48, 48, 50, 10, 114, 101, 97, 100, 101, 114, 32, 97, 32, 49, 32, 49, 48, 48, 49, 32, 53]⟩ = (none, 2) := by kernel_rfl
/-- `reader a 1 2 -1`. -/
theorem badM_12 : parseM ⟨#[114, 117, 108, 101, 32, 122, 32, 55, 58, 48, 48, 48, 48, 48, 48, 48, 50, 10, 114, 101, 97, 100, 101, 114, 32, 97, 32, 49, 32, 50, 32, 45, 49]⟩ = (none, 2) := by kernel_rfl
/-- `reader a 1 2 1000001`. -/
theorem badM_13 : parseM ⟨#[114, 117, 108, 101, 32, 122, 32, 55, 58, 48, 48, 48, 48, 48, 48, 48, 50, 10, 114, 101, 97, 100, 101, 114, 32, 97, 32, 49, 32, 50, 32, 49, 48, 48, 48, 48, 48, 49]⟩ = (none, 2) := by kernel_rfl
/-- `reader a 1 02 5`. -/
theorem badM_14 : parseM ⟨#[114, 117, 108, 101, 32, 122, 32, 55, 58, 48, 48, 48, 48, 48, 48, 48, 50, 10, 114, 101, 97, 100, 101, 114, 32, 97, 32, 49, 32, 48, 50, 32, 53]⟩ = (none, 2) := by kernel_rfl
/-- `reader a 1 2 05`. -/
theorem badM_15 : parseM ⟨#[114, 117, 108, 101, 32, 122, 32, 55, 58, 48, 48, 48, 48, 48, 48, 48, 50, 10, 114, 101, 97, 100, 101, 114, 32, 97, 32, 49, 32, 50, 32, 48, 53]⟩ = (none, 2) := by kernel_rfl
/-- `reader a x 2 5`. -/
theorem badM_16 : parseM ⟨#[114, 117, 108, 101, 32, 122, 32, 55, 58, 48, 48, 48, 48, 48, 48, 48, 50, 10, 114, 101, 97, 100, 101, 114, 32, 97, 32, 120, 32, 50, 32, 53]⟩ = (none, 2) := by kernel_rfl
/-- `reader 1 1 2 5`. -/
theorem badM_17 : parseM ⟨#[114, 117, 108, 101, 32, 122, 32, 55, 58, 48, 48, 48, 48, 48, 48, 48, 50, 10, 114, 101, 97, 100, 101, 114, 32, 49, 32, 49, 32, 50, 32, 53]⟩ = (none, 2) := by kernel_rfl
/-- `x`. -/
theorem badM_18 : parseM ⟨#[114, 117, 108, 101, 32, 122, 32, 55, 58, 48, 48, 48, 48, 48, 48, 48, 50, 10, 120]⟩ = (none, 2) := by kernel_rfl

/-- What stands in the loops: the first so many rules, the first so many readers. -/
def rulT : Nat → List UInt8
  | 0 => []
  | k + 1 => rulT k ++ ([114, 117, 108, 101, 32, 114] ++ (Lib.itoa (k : Int) ++ [32, 49, 10]))
def rdrT : Nat → List UInt8
  | 0 => []
  | k + 1 => rdrT k ++ ([114, 101, 97, 100, 101, 114, 32, 114] ++ (Lib.itoa (k : Int) ++ [32, 49, 32, 49, 48, 48, 48, 32, 49, 48, 48, 48, 48, 48, 48, 10]))
def numsT : List Nat := [0,1,10,11,12,13,14,15]
theorem rul_is : (rulT 64).length = 64 * 10 + 54 := by kernel_rfl
theorem rdr_is : (rdrT 16).length = 16 * 25 + 6 := by kernel_rfl
end Go.Proofs.YtcigbfjmnhogiabGreatDoor
