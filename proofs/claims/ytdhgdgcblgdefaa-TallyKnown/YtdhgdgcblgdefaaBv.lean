/- The model's operators on numbers of 32 bits, as those on registers. -/
import Derived.Test.YtdhgdgcblgdefaaTab
import Derived.Laws.BitsAllLaws
namespace Go.Proofs.Ytdhgdgcblgdefaa
open Go.RowKit

theorem bxor (a b : BitVec 32) : bits .xor .u32 (a.toNat : Int) (b.toNat : Int) = ((a ^^^ b).toNat : Int) := by
  rw [u32_xor_nat _ _ a.isLt b.isLt, BitVec.toNat_xor]

theorem band15 (a : BitVec 32) : bits .and .u32 (a.toNat : Int) 15 = ((a &&& 15#32).toNat : Int) := by
  have h := u32_and_nat a.toNat 15 a.isLt (by omega)
  rw [BitVec.toNat_and]
  exact h

theorem bnot (a : BitVec 32) : bits .xor .u32 IntKind.u32.max (a.toNat : Int) = ((~~~ a).toNat : Int) := by
  have e : IntKind.u32.max = (((BitVec.allOnes 32).toNat : Nat) : Int) := by decide +kernel
  rw [e, bxor, BitVec.allOnes_xor]

theorem bnot' (a : BitVec 32) : bits .xor .u32 4294967295 (a.toNat : Int) = ((~~~ a).toNat : Int) := bnot a

/-- A number of 32 bits is a register. -/
theorem regOf (s : Int) (h0 : 0 ≤ s) (h1 : s < 4294967296) : ∃ r : BitVec 32, s = (r.toNat : Int) := by
  refine ⟨BitVec.ofNat 32 s.toNat, ?_⟩
  rw [BitVec.toNat_ofNat, Nat.mod_eq_of_lt (by omega)]
  omega

theorem byt_toNat (x : Int) (h0 : 0 ≤ x) (h1 : x ≤ 255) : ((Crc.byt x).toNat : Int) = x := by
  unfold Crc.byt
  rw [BitVec.toNat_ofNat, Nat.mod_eq_of_lt (by omega)]
  omega

theorem bxor_byte (r : BitVec 32) (x : Int) (h0 : 0 ≤ x) (h1 : x ≤ 255) : bits .xor .u32 (r.toNat : Int) x = ((r ^^^ Crc.byt x).toNat : Int) := by
  have h := bxor r (Crc.byt x)
  rwa [byt_toNat x h0 h1] at h

theorem and15_lt (a : BitVec 32) : (a &&& 15#32).toNat < 16 := by
  rw [BitVec.toNat_and]
  exact Nat.lt_of_le_of_lt Nat.and_le_right (by decide)

theorem shr4 (a : BitVec 32) : (a.toNat : Int) / (16 : Int) = ((a >>> 4).toNat : Int) := by
  rw [BitVec.toNat_ushiftRight, Nat.shiftRight_eq_div_pow]
  omega

theorem half_step (a : BitVec 32) : bits .xor .u32 ((a.toNat : Int) / (16 : Int)) (Tab.nums.getD (a &&& 15#32).toNat 0) = ((Crc.stn 4 a).toNat : Int) := by
  have h := Tab.nums_get ⟨(a &&& 15#32).toNat, and15_lt a⟩
  rw [show Tab.nums.getD (a &&& 15#32).toNat 0 = _ from h, shr4, bxor]
  congr 2
  have e : BitVec.ofNat 32 (a &&& 15#32).toNat = a &&& 15#32 := by
    apply BitVec.eq_of_toNat_eq
    rw [BitVec.toNat_ofNat, Nat.mod_eq_of_lt (a &&& 15#32).isLt]
  rw [e]
  exact Crc.half a

end Go.Proofs.Ytdhgdgcblgdefaa
