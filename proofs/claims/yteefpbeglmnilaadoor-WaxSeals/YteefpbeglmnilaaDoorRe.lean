/- H and K are these roots. -/
import Derived.Test.YteefpbeglmnilaaDoorRa
namespace Go.Proofs.YteefpbeglmnilaaDoor
/-- The first 64 primes. -/
def Ref.P64 : List Nat := [2, 3, 5, 7, 11, 13, 17, 19, 23, 29, 31, 37, 41, 43, 47, 53, 59, 61, 67, 71, 73, 79, 83, 89, 97, 101, 103, 107, 109, 113, 127, 131, 137, 139, 149, 151, 157, 163, 167, 173, 179, 181, 191, 193, 197, 199, 211, 223, 227, 229, 233, 239, 241, 251, 257, 263, 269, 271, 277, 281, 283, 293, 307, 311]
theorem ps_lit : Sha.ps 310 = Ref.P64 := by decide +kernel
def Ref.okH (a n : Nat) : Bool := (List.range' a n).all fun i => Ref.root (Ref.P64.getD i 0) 2 == (Sha.at_ Sha.H.list i).toNat
def Ref.okK (a n : Nat) : Bool := (List.range' a n).all fun i => Ref.root (Ref.P64.getD i 0) 3 == (Sha.at_ Sha.K i).toNat
theorem okH0 : Ref.okH 0 8 = true := by decide +kernel
theorem okK0 : Ref.okK 0 4 = true := by decide +kernel
theorem okK1 : Ref.okK 4 4 = true := by decide +kernel
theorem okK2 : Ref.okK 8 4 = true := by decide +kernel
theorem okK3 : Ref.okK 12 4 = true := by decide +kernel
theorem okK4 : Ref.okK 16 4 = true := by decide +kernel
theorem okK5 : Ref.okK 20 4 = true := by decide +kernel
theorem okK6 : Ref.okK 24 4 = true := by decide +kernel
theorem okK7 : Ref.okK 28 4 = true := by decide +kernel
theorem okK8 : Ref.okK 32 4 = true := by decide +kernel
theorem okK9 : Ref.okK 36 4 = true := by decide +kernel
theorem okK10 : Ref.okK 40 4 = true := by decide +kernel
theorem okK11 : Ref.okK 44 4 = true := by decide +kernel
theorem okK12 : Ref.okK 48 4 = true := by decide +kernel
theorem okK13 : Ref.okK 52 4 = true := by decide +kernel
theorem okK14 : Ref.okK 56 4 = true := by decide +kernel
theorem okK15 : Ref.okK 60 4 = true := by decide +kernel
theorem okK_at {a n i : Nat} (h : Ref.okK a n = true) (h1 : a ≤ i) (h2 : i < a + n) : Ref.root ((Sha.ps 310).getD i 0) 3 = (Sha.at_ Sha.K i).toNat := by
  rw [ps_lit]
  exact eq_of_beq (List.all_eq_true.1 h i (List.mem_range'_1.2 ⟨h1, h2⟩))
theorem rh_all (i : Nat) (hi : i < 8) : Ref.root ((Sha.ps 310).getD i 0) 2 = (Sha.at_ Sha.H.list i).toNat := by
  rw [ps_lit]
  exact eq_of_beq (List.all_eq_true.1 okH0 i (List.mem_range'_1.2 ⟨Nat.zero_le _, by omega⟩))
theorem rk_all (i : Nat) (hi : i < 64) : Ref.root ((Sha.ps 310).getD i 0) 3 = (Sha.at_ Sha.K i).toNat := by
  by_cases h0 : i < 4
  · exact okK_at okK0 (by omega) (by omega)
  by_cases h1 : i < 8
  · exact okK_at okK1 (by omega) (by omega)
  by_cases h2 : i < 12
  · exact okK_at okK2 (by omega) (by omega)
  by_cases h3 : i < 16
  · exact okK_at okK3 (by omega) (by omega)
  by_cases h4 : i < 20
  · exact okK_at okK4 (by omega) (by omega)
  by_cases h5 : i < 24
  · exact okK_at okK5 (by omega) (by omega)
  by_cases h6 : i < 28
  · exact okK_at okK6 (by omega) (by omega)
  by_cases h7 : i < 32
  · exact okK_at okK7 (by omega) (by omega)
  by_cases h8 : i < 36
  · exact okK_at okK8 (by omega) (by omega)
  by_cases h9 : i < 40
  · exact okK_at okK9 (by omega) (by omega)
  by_cases h10 : i < 44
  · exact okK_at okK10 (by omega) (by omega)
  by_cases h11 : i < 48
  · exact okK_at okK11 (by omega) (by omega)
  by_cases h12 : i < 52
  · exact okK_at okK12 (by omega) (by omega)
  by_cases h13 : i < 56
  · exact okK_at okK13 (by omega) (by omega)
  by_cases h14 : i < 60
  · exact okK_at okK14 (by omega) (by omega)
  exact okK_at okK15 (by omega) (by omega)
end Go.Proofs.YteefpbeglmnilaaDoor
