/- DigitsShort: for every number the law answers true: a number has as few bytes as can be. -/
import Derived.Test.YtdjpdllgifdhaaaBr
import Derived.Test.YtdjpdllgifdhaaaRows
import Derived.ProofKit
import Derived.OpenShut
import Derived.ShutString
import Derived.ChangeOld
namespace Go.Proofs.Ytdjpdllgifdhaaa.digitsShort
open Go.ChangeShapes Go.WideShapes Go.ChangeAt Go.RowKit
open Go.ChangeMaps (open_string shut_string)
set_option linter.unusedVariables false

theorem szs (a : Int) (h0 : 0 ≤ a) (h1 : a ≤ 9007199254740991) : ∃ my mz, Num.sz (foldI a) = my ∧ Num.sz (foldI (-a)) = mz ∧ Num.sz a ≤ my ∧ my ≤ Num.sz a + 1 ∧ my ≤ 8 ∧ mz ≤ my := by
  refine ⟨_, _, rfl, rfl, ?_⟩
  have e1 : foldI a = 2 * a := by unfold foldI; rw [if_neg (by omega)]
  have e2 : (foldI (-a) = 2 * a - 1 ∧ 0 < a) ∨ (foldI (-a) = 0 ∧ a = 0) := by unfold foldI; split <;> omega
  have c0 := Num.sz_cases a h0
  have c1 := Num.sz_cases (foldI a) (by omega)
  have c2 := Num.sz_cases (foldI (-a)) (by omega)
  omega

set_option maxHeartbeats 2000000 in
theorem walk1 (a0 a : Int) (w0 : -9223372036854775808 ≤ a0) (w1 : a0 ≤ 9223372036854775807) (w : World) (ha : a0 % 9007199254740992 = a) (h0 : 0 ≤ a) (h1 : a < 128) (h2 : a ≤ 9007199254740991) (my mz : Nat)
    (hk : Num.sz a = 1) (hy : Num.sz (foldI a) = my) (hz : Num.sz (foldI (-a)) = mz) (y0 : 1 ≤ my) (y1 : my ≤ 2) (y8 : my ≤ 8) (z1 : mz ≤ my) :
    Calls Try.prog 8 #[.int .i64 a0] w fun e w' => TrueEnd w e w' := by
  have HA := hd ha
  have HK := hd hk
  have HY := hd hy
  have HZ := hd hz
  have y0' : (1 : Int) ≤ (my : Int) := by omega
  have y1' : (my : Int) ≤ 2 := by omega
  have y8' : (my : Int) ≤ 8 := by omega
  have z1' : (mz : Int) ≤ (my : Int) := by omega
  clear ha hk hy hz
  go_enter Try.func8, Try.ntmps8
  go_wp2_with fail
  refine (works_true _).mono ?_
  rintro e w2 ⟨rfl, hb⟩
  have HB := hd hb
  clear hb
  go_wp2_with fail
  refine (bring_any _ _ _ w0 w1 (by omega) (by omega)).mono ?_
  rintro e w3 ⟨rfl, rfl⟩
  rw [HA.out]
  go_wp2_with fail
  refine (U_len a 1 _ (by omega) h2 HK.out).mono ?_
  rintro e w4 ⟨a1, c1, rfl, hb⟩
  have HB4 := hd (below_below HB.out hb)
  clear hb HB
  go_wp2_with fail
  refine (S_len a my _ (by omega) h2 HY.out).mono ?_
  rintro e w5 ⟨a2, c2, rfl, hb⟩
  have HB5 := hd (below_below HB4.out hb)
  clear hb HB4
  go_wp2_with fail
  refine (S_len (-a) mz _ (by omega) (by omega) HZ.out).mono ?_
  rintro e w6 ⟨a3, c3, rfl, hb⟩
  have HB6 := hd (below_below HB5.out hb)
  clear hb HB5
  go_wp2
  go_ret
  exact ⟨rfl, HB6.out⟩

set_option maxHeartbeats 2000000 in
theorem walk2 (a0 a : Int) (w0 : -9223372036854775808 ≤ a0) (w1 : a0 ≤ 9223372036854775807) (w : World) (ha : a0 % 9007199254740992 = a) (h0 : 128 ≤ a) (h1 : a < 16384) (h2 : a ≤ 9007199254740991) (my mz : Nat)
    (hk : Num.sz a = 2) (hy : Num.sz (foldI a) = my) (hz : Num.sz (foldI (-a)) = mz) (y0 : 2 ≤ my) (y1 : my ≤ 3) (y8 : my ≤ 8) (z1 : mz ≤ my) :
    Calls Try.prog 8 #[.int .i64 a0] w fun e w' => TrueEnd w e w' := by
  have HA := hd ha
  have HK := hd hk
  have HY := hd hy
  have HZ := hd hz
  have y0' : (2 : Int) ≤ (my : Int) := by omega
  have y1' : (my : Int) ≤ 3 := by omega
  have y8' : (my : Int) ≤ 8 := by omega
  have z1' : (mz : Int) ≤ (my : Int) := by omega
  clear ha hk hy hz
  go_enter Try.func8, Try.ntmps8
  go_wp2_with fail
  refine (works_true _).mono ?_
  rintro e w2 ⟨rfl, hb⟩
  have HB := hd hb
  clear hb
  go_wp2_with fail
  refine (bring_any _ _ _ w0 w1 (by omega) (by omega)).mono ?_
  rintro e w3 ⟨rfl, rfl⟩
  rw [HA.out]
  go_wp2_with fail
  refine (U_len a 2 _ (by omega) h2 HK.out).mono ?_
  rintro e w4 ⟨a1, c1, rfl, hb⟩
  have HB4 := hd (below_below HB.out hb)
  clear hb HB
  go_wp2_with fail
  refine (S_len a my _ (by omega) h2 HY.out).mono ?_
  rintro e w5 ⟨a2, c2, rfl, hb⟩
  have HB5 := hd (below_below HB4.out hb)
  clear hb HB4
  go_wp2_with fail
  refine (S_len (-a) mz _ (by omega) (by omega) HZ.out).mono ?_
  rintro e w6 ⟨a3, c3, rfl, hb⟩
  have HB6 := hd (below_below HB5.out hb)
  clear hb HB5
  go_wp2
  go_ret
  exact ⟨rfl, HB6.out⟩

set_option maxHeartbeats 2000000 in
theorem walk3 (a0 a : Int) (w0 : -9223372036854775808 ≤ a0) (w1 : a0 ≤ 9223372036854775807) (w : World) (ha : a0 % 9007199254740992 = a) (h0 : 16384 ≤ a) (h1 : a < 2097152) (h2 : a ≤ 9007199254740991) (my mz : Nat)
    (hk : Num.sz a = 3) (hy : Num.sz (foldI a) = my) (hz : Num.sz (foldI (-a)) = mz) (y0 : 3 ≤ my) (y1 : my ≤ 4) (y8 : my ≤ 8) (z1 : mz ≤ my) :
    Calls Try.prog 8 #[.int .i64 a0] w fun e w' => TrueEnd w e w' := by
  have HA := hd ha
  have HK := hd hk
  have HY := hd hy
  have HZ := hd hz
  have y0' : (3 : Int) ≤ (my : Int) := by omega
  have y1' : (my : Int) ≤ 4 := by omega
  have y8' : (my : Int) ≤ 8 := by omega
  have z1' : (mz : Int) ≤ (my : Int) := by omega
  clear ha hk hy hz
  go_enter Try.func8, Try.ntmps8
  go_wp2_with fail
  refine (works_true _).mono ?_
  rintro e w2 ⟨rfl, hb⟩
  have HB := hd hb
  clear hb
  go_wp2_with fail
  refine (bring_any _ _ _ w0 w1 (by omega) (by omega)).mono ?_
  rintro e w3 ⟨rfl, rfl⟩
  rw [HA.out]
  go_wp2_with fail
  refine (U_len a 3 _ (by omega) h2 HK.out).mono ?_
  rintro e w4 ⟨a1, c1, rfl, hb⟩
  have HB4 := hd (below_below HB.out hb)
  clear hb HB
  go_wp2_with fail
  refine (S_len a my _ (by omega) h2 HY.out).mono ?_
  rintro e w5 ⟨a2, c2, rfl, hb⟩
  have HB5 := hd (below_below HB4.out hb)
  clear hb HB4
  go_wp2_with fail
  refine (S_len (-a) mz _ (by omega) (by omega) HZ.out).mono ?_
  rintro e w6 ⟨a3, c3, rfl, hb⟩
  have HB6 := hd (below_below HB5.out hb)
  clear hb HB5
  go_wp2
  go_ret
  exact ⟨rfl, HB6.out⟩

set_option maxHeartbeats 2000000 in
theorem walk4 (a0 a : Int) (w0 : -9223372036854775808 ≤ a0) (w1 : a0 ≤ 9223372036854775807) (w : World) (ha : a0 % 9007199254740992 = a) (h0 : 2097152 ≤ a) (h1 : a < 268435456) (h2 : a ≤ 9007199254740991) (my mz : Nat)
    (hk : Num.sz a = 4) (hy : Num.sz (foldI a) = my) (hz : Num.sz (foldI (-a)) = mz) (y0 : 4 ≤ my) (y1 : my ≤ 5) (y8 : my ≤ 8) (z1 : mz ≤ my) :
    Calls Try.prog 8 #[.int .i64 a0] w fun e w' => TrueEnd w e w' := by
  have HA := hd ha
  have HK := hd hk
  have HY := hd hy
  have HZ := hd hz
  have y0' : (4 : Int) ≤ (my : Int) := by omega
  have y1' : (my : Int) ≤ 5 := by omega
  have y8' : (my : Int) ≤ 8 := by omega
  have z1' : (mz : Int) ≤ (my : Int) := by omega
  clear ha hk hy hz
  go_enter Try.func8, Try.ntmps8
  go_wp2_with fail
  refine (works_true _).mono ?_
  rintro e w2 ⟨rfl, hb⟩
  have HB := hd hb
  clear hb
  go_wp2_with fail
  refine (bring_any _ _ _ w0 w1 (by omega) (by omega)).mono ?_
  rintro e w3 ⟨rfl, rfl⟩
  rw [HA.out]
  go_wp2_with fail
  refine (U_len a 4 _ (by omega) h2 HK.out).mono ?_
  rintro e w4 ⟨a1, c1, rfl, hb⟩
  have HB4 := hd (below_below HB.out hb)
  clear hb HB
  go_wp2_with fail
  refine (S_len a my _ (by omega) h2 HY.out).mono ?_
  rintro e w5 ⟨a2, c2, rfl, hb⟩
  have HB5 := hd (below_below HB4.out hb)
  clear hb HB4
  go_wp2_with fail
  refine (S_len (-a) mz _ (by omega) (by omega) HZ.out).mono ?_
  rintro e w6 ⟨a3, c3, rfl, hb⟩
  have HB6 := hd (below_below HB5.out hb)
  clear hb HB5
  go_wp2
  go_ret
  exact ⟨rfl, HB6.out⟩

set_option maxHeartbeats 2000000 in
theorem walk5 (a0 a : Int) (w0 : -9223372036854775808 ≤ a0) (w1 : a0 ≤ 9223372036854775807) (w : World) (ha : a0 % 9007199254740992 = a) (h0 : 268435456 ≤ a) (h1 : a < 34359738368) (h2 : a ≤ 9007199254740991) (my mz : Nat)
    (hk : Num.sz a = 5) (hy : Num.sz (foldI a) = my) (hz : Num.sz (foldI (-a)) = mz) (y0 : 5 ≤ my) (y1 : my ≤ 6) (y8 : my ≤ 8) (z1 : mz ≤ my) :
    Calls Try.prog 8 #[.int .i64 a0] w fun e w' => TrueEnd w e w' := by
  have HA := hd ha
  have HK := hd hk
  have HY := hd hy
  have HZ := hd hz
  have y0' : (5 : Int) ≤ (my : Int) := by omega
  have y1' : (my : Int) ≤ 6 := by omega
  have y8' : (my : Int) ≤ 8 := by omega
  have z1' : (mz : Int) ≤ (my : Int) := by omega
  clear ha hk hy hz
  go_enter Try.func8, Try.ntmps8
  go_wp2_with fail
  refine (works_true _).mono ?_
  rintro e w2 ⟨rfl, hb⟩
  have HB := hd hb
  clear hb
  go_wp2_with fail
  refine (bring_any _ _ _ w0 w1 (by omega) (by omega)).mono ?_
  rintro e w3 ⟨rfl, rfl⟩
  rw [HA.out]
  go_wp2_with fail
  refine (U_len a 5 _ (by omega) h2 HK.out).mono ?_
  rintro e w4 ⟨a1, c1, rfl, hb⟩
  have HB4 := hd (below_below HB.out hb)
  clear hb HB
  go_wp2_with fail
  refine (S_len a my _ (by omega) h2 HY.out).mono ?_
  rintro e w5 ⟨a2, c2, rfl, hb⟩
  have HB5 := hd (below_below HB4.out hb)
  clear hb HB4
  go_wp2_with fail
  refine (S_len (-a) mz _ (by omega) (by omega) HZ.out).mono ?_
  rintro e w6 ⟨a3, c3, rfl, hb⟩
  have HB6 := hd (below_below HB5.out hb)
  clear hb HB5
  go_wp2
  go_ret
  exact ⟨rfl, HB6.out⟩

set_option maxHeartbeats 2000000 in
theorem walk6 (a0 a : Int) (w0 : -9223372036854775808 ≤ a0) (w1 : a0 ≤ 9223372036854775807) (w : World) (ha : a0 % 9007199254740992 = a) (h0 : 34359738368 ≤ a) (h1 : a < 4398046511104) (h2 : a ≤ 9007199254740991) (my mz : Nat)
    (hk : Num.sz a = 6) (hy : Num.sz (foldI a) = my) (hz : Num.sz (foldI (-a)) = mz) (y0 : 6 ≤ my) (y1 : my ≤ 7) (y8 : my ≤ 8) (z1 : mz ≤ my) :
    Calls Try.prog 8 #[.int .i64 a0] w fun e w' => TrueEnd w e w' := by
  have HA := hd ha
  have HK := hd hk
  have HY := hd hy
  have HZ := hd hz
  have y0' : (6 : Int) ≤ (my : Int) := by omega
  have y1' : (my : Int) ≤ 7 := by omega
  have y8' : (my : Int) ≤ 8 := by omega
  have z1' : (mz : Int) ≤ (my : Int) := by omega
  clear ha hk hy hz
  go_enter Try.func8, Try.ntmps8
  go_wp2_with fail
  refine (works_true _).mono ?_
  rintro e w2 ⟨rfl, hb⟩
  have HB := hd hb
  clear hb
  go_wp2_with fail
  refine (bring_any _ _ _ w0 w1 (by omega) (by omega)).mono ?_
  rintro e w3 ⟨rfl, rfl⟩
  rw [HA.out]
  go_wp2_with fail
  refine (U_len a 6 _ (by omega) h2 HK.out).mono ?_
  rintro e w4 ⟨a1, c1, rfl, hb⟩
  have HB4 := hd (below_below HB.out hb)
  clear hb HB
  go_wp2_with fail
  refine (S_len a my _ (by omega) h2 HY.out).mono ?_
  rintro e w5 ⟨a2, c2, rfl, hb⟩
  have HB5 := hd (below_below HB4.out hb)
  clear hb HB4
  go_wp2_with fail
  refine (S_len (-a) mz _ (by omega) (by omega) HZ.out).mono ?_
  rintro e w6 ⟨a3, c3, rfl, hb⟩
  have HB6 := hd (below_below HB5.out hb)
  clear hb HB5
  go_wp2
  go_ret
  exact ⟨rfl, HB6.out⟩

set_option maxHeartbeats 2000000 in
theorem walk7 (a0 a : Int) (w0 : -9223372036854775808 ≤ a0) (w1 : a0 ≤ 9223372036854775807) (w : World) (ha : a0 % 9007199254740992 = a) (h0 : 4398046511104 ≤ a) (h1 : a < 562949953421312) (h2 : a ≤ 9007199254740991) (my mz : Nat)
    (hk : Num.sz a = 7) (hy : Num.sz (foldI a) = my) (hz : Num.sz (foldI (-a)) = mz) (y0 : 7 ≤ my) (y1 : my ≤ 8) (y8 : my ≤ 8) (z1 : mz ≤ my) :
    Calls Try.prog 8 #[.int .i64 a0] w fun e w' => TrueEnd w e w' := by
  have HA := hd ha
  have HK := hd hk
  have HY := hd hy
  have HZ := hd hz
  have y0' : (7 : Int) ≤ (my : Int) := by omega
  have y1' : (my : Int) ≤ 8 := by omega
  have y8' : (my : Int) ≤ 8 := by omega
  have z1' : (mz : Int) ≤ (my : Int) := by omega
  clear ha hk hy hz
  go_enter Try.func8, Try.ntmps8
  go_wp2_with fail
  refine (works_true _).mono ?_
  rintro e w2 ⟨rfl, hb⟩
  have HB := hd hb
  clear hb
  go_wp2_with fail
  refine (bring_any _ _ _ w0 w1 (by omega) (by omega)).mono ?_
  rintro e w3 ⟨rfl, rfl⟩
  rw [HA.out]
  go_wp2_with fail
  refine (U_len a 7 _ (by omega) h2 HK.out).mono ?_
  rintro e w4 ⟨a1, c1, rfl, hb⟩
  have HB4 := hd (below_below HB.out hb)
  clear hb HB
  go_wp2_with fail
  refine (S_len a my _ (by omega) h2 HY.out).mono ?_
  rintro e w5 ⟨a2, c2, rfl, hb⟩
  have HB5 := hd (below_below HB4.out hb)
  clear hb HB4
  go_wp2_with fail
  refine (S_len (-a) mz _ (by omega) (by omega) HZ.out).mono ?_
  rintro e w6 ⟨a3, c3, rfl, hb⟩
  have HB6 := hd (below_below HB5.out hb)
  clear hb HB5
  go_wp2
  go_ret
  exact ⟨rfl, HB6.out⟩

set_option maxHeartbeats 2000000 in
theorem walk8 (a0 a : Int) (w0 : -9223372036854775808 ≤ a0) (w1 : a0 ≤ 9223372036854775807) (w : World) (ha : a0 % 9007199254740992 = a) (h0 : 562949953421312 ≤ a) (h1 : a < 72057594037927936) (h2 : a ≤ 9007199254740991) (my mz : Nat)
    (hk : Num.sz a = 8) (hy : Num.sz (foldI a) = my) (hz : Num.sz (foldI (-a)) = mz) (y0 : 8 ≤ my) (y1 : my ≤ 9) (y8 : my ≤ 8) (z1 : mz ≤ my) :
    Calls Try.prog 8 #[.int .i64 a0] w fun e w' => TrueEnd w e w' := by
  have HA := hd ha
  have HK := hd hk
  have HY := hd hy
  have HZ := hd hz
  have y0' : (8 : Int) ≤ (my : Int) := by omega
  have y1' : (my : Int) ≤ 9 := by omega
  have y8' : (my : Int) ≤ 8 := by omega
  have z1' : (mz : Int) ≤ (my : Int) := by omega
  clear ha hk hy hz
  go_enter Try.func8, Try.ntmps8
  go_wp2_with fail
  refine (works_true _).mono ?_
  rintro e w2 ⟨rfl, hb⟩
  have HB := hd hb
  clear hb
  go_wp2_with fail
  refine (bring_any _ _ _ w0 w1 (by omega) (by omega)).mono ?_
  rintro e w3 ⟨rfl, rfl⟩
  rw [HA.out]
  go_wp2_with fail
  refine (U_len a 8 _ (by omega) h2 HK.out).mono ?_
  rintro e w4 ⟨a1, c1, rfl, hb⟩
  have HB4 := hd (below_below HB.out hb)
  clear hb HB
  go_wp2_with fail
  refine (S_len a my _ (by omega) h2 HY.out).mono ?_
  rintro e w5 ⟨a2, c2, rfl, hb⟩
  have HB5 := hd (below_below HB4.out hb)
  clear hb HB4
  go_wp2_with fail
  refine (S_len (-a) mz _ (by omega) (by omega) HZ.out).mono ?_
  rintro e w6 ⟨a3, c3, rfl, hb⟩
  have HB6 := hd (below_below HB5.out hb)
  clear hb HB5
  go_wp2
  go_ret
  exact ⟨rfl, HB6.out⟩

theorem walk (a0 : Int) (wf : (Lit.int .i64 a0).wf = true) (w : World) :
    Calls Try.prog 8 #[.int .i64 a0] w fun e w' => e = .returned (.bool true) ∧ Below w.heap.size w w' := by
  obtain ⟨w0, w1⟩ := bounds_i64 wf
  obtain ⟨a, ha⟩ : ∃ a, a0 % 9007199254740992 = a := ⟨_, rfl⟩
  have h0 : 0 ≤ a := by omega
  have h2 : a ≤ 9007199254740991 := by omega
  obtain ⟨my, mz, hy, hz, y0, y1, y8, z1⟩ := szs a h0 h2
  rcases Num.sz_cases a h0 with h | h | h | h | h | h | h | h
  · exact walk1 a0 a w0 w1 w ha h0 h.2 h2 my mz h.1 hy hz (by omega) (by omega) y8 z1
  · exact walk2 a0 a w0 w1 w ha h.2.1 h.2.2 h2 my mz h.1 hy hz (by omega) (by omega) y8 z1
  · exact walk3 a0 a w0 w1 w ha h.2.1 h.2.2 h2 my mz h.1 hy hz (by omega) (by omega) y8 z1
  · exact walk4 a0 a w0 w1 w ha h.2.1 h.2.2 h2 my mz h.1 hy hz (by omega) (by omega) y8 z1
  · exact walk5 a0 a w0 w1 w ha h.2.1 h.2.2 h2 my mz h.1 hy hz (by omega) (by omega) y8 z1
  · exact walk6 a0 a w0 w1 w ha h.2.1 h.2.2 h2 my mz h.1 hy hz (by omega) (by omega) y8 z1
  · exact walk7 a0 a w0 w1 w ha h.2.1 h.2.2 h2 my mz h.1 hy hz (by omega) (by omega) y8 z1
  · exact walk8 a0 a w0 w1 w ha h.2 (by omega) h2 my mz h.1 hy hz (by omega) (by omega) y8 z1

theorem own : ownKnob Try.prog.godebug = none := by kernel_rfl

set_option maxRecDepth 100000 in
theorem lifted (os : Os) (started : os.Started) (H : Type) (enc : TypeId × Value → H) :
    ReturnsInHanded {} Try.checked os 8 .any (Rows.digitsShortSpec.pre6 enc Try.prog Try.f8 Rows.digitsShortRow.domain false) (Rows.digitsShortSpec.post enc Try.prog Try.f8 false true false false) := by
  refine returnsInHanded_of_change (C := Try.checked) own started (by kernel_rfl) Try.func8
    (ChangeSpec.witness6 (enc := enc) (C := Try.checked) false ⟨#[], #[.int .i64 0], []⟩ 8 (by kernel_rfl) (by kernel_rfl) (by kernel_rfl) (by kernel_rfl)) ?_
  intro W base args ds gs before hval0 hW hcnd _
  have hval : ∀ (j : Nat) t v, Try.f8.params[j]? = some t → args[j]? = some v → Value.okWide Try.prog W .any base t v := hval0
  have hW' := hW
  obtain ⟨p, q, hA0, hV, rfl, hfz, hnd⟩ := hW
  have hA : DataW.TrodAll enc Try.prog W 0 (fun _ => true) true Try.f8.params.toList args.toList ds p := hA0
  rw [Try.params8] at hA hval
  obtain ⟨v0, vs0, d0, ds0, p0, q0, hargs, rfl, rfl, h0, r0⟩ := trodAll_cons hA
  obtain ⟨rfl, rfl, rfl⟩ := trodAll_nil r0
  obtain rfl : args = #[v0] := by cases args; simp_all
  obtain ⟨rfl, rfl⟩ := trodVars_none hV
  obtain ⟨a0, rfl, rfl, rfl, w0⟩ := open_int Try.underlying3 (hval 0 3 v0 rfl rfl) h0
  clear hA0 hval0
  refine (walk a0 w0 W).mono fun e W' ⟨he, bel⟩ => ?_
  subst he
  exact ⟨_, rfl, _, _, _, [], _, [], hW', trodAll_mk1 (shut_bool Try.underlying4 _), (trodAll_cons_mk (shut_int Try.underlying3 w0) trodAll_mk0), rfl, bel.frame _, fun h => by cases h⟩

theorem over : Rows.digitsShortRow.holds Try.pinned (OpenSpec.ofChange Rows.digitsShortSpec) :=
  OpenClaim.holds_of_wide 8 Try.f8 rfl rfl rfl rfl rfl rfl rfl ⟨rfl, rfl, rfl, rfl, rfl⟩ rfl rfl rfl rfl rfl (by kernel_rfl) Try.func8 (by kernel_rfl)
    (of_decide_eq_true (by kernel_rfl)) (by unfold Func.isWrapper; first | (rw [if_pos (by decide +kernel)]; kernel_rfl) | (rw [if_neg (by decide +kernel)]; exact ⟨rfl, rfl⟩))
    (fun os started H enc _ => lifted os started H enc)

end Go.Proofs.Ytdjpdllgifdhaaa.digitsShort
namespace Go.Proofs.Ytdjpdllgifdhaaa

/-- The statement. -/
theorem digitsShort_proved : Rows.DigitsShortSaid := digitsShort.over
#print axioms digitsShort_proved
end Go.Proofs.Ytdjpdllgifdhaaa
