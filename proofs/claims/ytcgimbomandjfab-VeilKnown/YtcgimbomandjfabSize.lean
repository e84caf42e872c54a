/- digits.sizeOf: in how few bytes a number is written. -/
import Derived.Test.YtcgimbomandjfabLen
import Derived.Test.YtcgimbomandjfabNum
import Derived.WalkMore
import Derived.Deep.LoopGhost
namespace Go.Proofs.Ytcgimbomandjfab
open Go.RowKit

theorem len_is0 (x : Int) (w : World) (h : x = 0) :
    Calls Try.prog 37 #[.int .u64 x] w fun e w' => e = .returned (.int .i64 0) ∧ w' = w := by
  subst h; exact len_zero w

set_option maxHeartbeats 4000000 in
theorem sizeOf_any (n : Int) (w : World) (h0 : 0 ≤ n) (h1 : n < 72057594037927936) :
    Calls Try.prog 30 #[.int .i64 n] w fun e w' => e = .returned (.int .i64 (Num.sz n)) ∧ w' = w := by
  have HS : Hid (1 ≤ Num.sz n ∧ Num.sz n ≤ 8) := Num.sz_bd n h0
  go_enter Try.func30, Try.ntmps30
  go_wp2
  go_step3
  go_wp2
  go_step3
  go_wp2
  go_loop [3] (fun s => ∃ k : Nat, 1 ≤ k ∧ k ≤ Num.sz n ∧ s = .int .i64 k) (fun s => 8 - (intOf s).toNat)
  case atStart => exact ⟨1, Nat.le_refl _, HS.out.1, rfl⟩
  case round =>
    obtain ⟨k, hk1, hk2, rfl⟩ := hrel
    have hc := Num.sz_cases n h0
    have hs : k < Num.sz n ∨ k = Num.sz n := by omega
    have hk : k = 1 ∨ k = 2 ∨ k = 3 ∨ k = 4 ∨ k = 5 ∨ k = 6 ∨ k = 7 ∨ k = 8 := by omega
    rcases hs with hs | hs
    · rcases hk with rfl | rfl | rfl | rfl | rfl | rfl | rfl | rfl
      · have e : 128 ≤ n := by omega
        have HE : Hid (1 < Num.sz n) := hs
        clear hc hk2 hk1 hs
        go_wp2_with (go_at_call 37; refine (len_pos _ _ (by omega) (by omega)).mono ?_; rintro e w' ⟨⟨r, hr, rfl⟩, rfl⟩; have hr0 : (r == 0) = false := by simp; omega)
        go_round
        case rel => exact ⟨2, by omega, HE.out, rfl⟩
        case measure => simp [intOf]
      · have e : 16384 ≤ n := by omega
        have HE : Hid (2 < Num.sz n) := hs
        clear hc hk2 hk1 hs
        go_wp2_with (go_at_call 37; refine (len_pos _ _ (by omega) (by omega)).mono ?_; rintro e w' ⟨⟨r, hr, rfl⟩, rfl⟩; have hr0 : (r == 0) = false := by simp; omega)
        go_round
        case rel => exact ⟨3, by omega, HE.out, rfl⟩
        case measure => simp [intOf]
      · have e : 2097152 ≤ n := by omega
        have HE : Hid (3 < Num.sz n) := hs
        clear hc hk2 hk1 hs
        go_wp2_with (go_at_call 37; refine (len_pos _ _ (by omega) (by omega)).mono ?_; rintro e w' ⟨⟨r, hr, rfl⟩, rfl⟩; have hr0 : (r == 0) = false := by simp; omega)
        go_round
        case rel => exact ⟨4, by omega, HE.out, rfl⟩
        case measure => simp [intOf]
      · have e : 268435456 ≤ n := by omega
        have HE : Hid (4 < Num.sz n) := hs
        clear hc hk2 hk1 hs
        go_wp2_with (go_at_call 37; refine (len_pos _ _ (by omega) (by omega)).mono ?_; rintro e w' ⟨⟨r, hr, rfl⟩, rfl⟩; have hr0 : (r == 0) = false := by simp; omega)
        go_round
        case rel => exact ⟨5, by omega, HE.out, rfl⟩
        case measure => simp [intOf]
      · have e : 34359738368 ≤ n := by omega
        have HE : Hid (5 < Num.sz n) := hs
        clear hc hk2 hk1 hs
        go_wp2_with (go_at_call 37; refine (len_pos _ _ (by omega) (by omega)).mono ?_; rintro e w' ⟨⟨r, hr, rfl⟩, rfl⟩; have hr0 : (r == 0) = false := by simp; omega)
        go_round
        case rel => exact ⟨6, by omega, HE.out, rfl⟩
        case measure => simp [intOf]
      · have e : 4398046511104 ≤ n := by omega
        have HE : Hid (6 < Num.sz n) := hs
        clear hc hk2 hk1 hs
        go_wp2_with (go_at_call 37; refine (len_pos _ _ (by omega) (by omega)).mono ?_; rintro e w' ⟨⟨r, hr, rfl⟩, rfl⟩; have hr0 : (r == 0) = false := by simp; omega)
        go_round
        case rel => exact ⟨7, by omega, HE.out, rfl⟩
        case measure => simp [intOf]
      · have e : 562949953421312 ≤ n := by omega
        have HE : Hid (7 < Num.sz n) := hs
        clear hc hk2 hk1 hs
        go_wp2_with (go_at_call 37; refine (len_pos _ _ (by omega) (by omega)).mono ?_; rintro e w' ⟨⟨r, hr, rfl⟩, rfl⟩; have hr0 : (r == 0) = false := by simp; omega)
        go_round
        case rel => exact ⟨8, by omega, HE.out, rfl⟩
        case measure => simp [intOf]
      · omega
    · rcases hk with rfl | rfl | rfl | rfl | rfl | rfl | rfl | rfl
      · have e : n < 128 := by omega
        have HE : Hid (1 = Num.sz n) := hs
        clear hc hk2 hk1 hs
        go_wp2_with (go_at_call 37; refine (len_is0 _ _ (by omega)).mono ?_; rintro e w' ⟨rfl, rfl⟩)
        try rw [Exit.noGoto_ret]
        go_ret
        exact ⟨by rw [← HE.out]; rfl, rfl⟩
      · have e : n < 16384 := by omega
        have HE : Hid (2 = Num.sz n) := hs
        clear hc hk2 hk1 hs
        go_wp2_with (go_at_call 37; refine (len_is0 _ _ (by omega)).mono ?_; rintro e w' ⟨rfl, rfl⟩)
        try rw [Exit.noGoto_ret]
        go_ret
        exact ⟨by rw [← HE.out]; rfl, rfl⟩
      · have e : n < 2097152 := by omega
        have HE : Hid (3 = Num.sz n) := hs
        clear hc hk2 hk1 hs
        go_wp2_with (go_at_call 37; refine (len_is0 _ _ (by omega)).mono ?_; rintro e w' ⟨rfl, rfl⟩)
        try rw [Exit.noGoto_ret]
        go_ret
        exact ⟨by rw [← HE.out]; rfl, rfl⟩
      · have e : n < 268435456 := by omega
        have HE : Hid (4 = Num.sz n) := hs
        clear hc hk2 hk1 hs
        go_wp2_with (go_at_call 37; refine (len_is0 _ _ (by omega)).mono ?_; rintro e w' ⟨rfl, rfl⟩)
        try rw [Exit.noGoto_ret]
        go_ret
        exact ⟨by rw [← HE.out]; rfl, rfl⟩
      · have e : n < 34359738368 := by omega
        have HE : Hid (5 = Num.sz n) := hs
        clear hc hk2 hk1 hs
        go_wp2_with (go_at_call 37; refine (len_is0 _ _ (by omega)).mono ?_; rintro e w' ⟨rfl, rfl⟩)
        try rw [Exit.noGoto_ret]
        go_ret
        exact ⟨by rw [← HE.out]; rfl, rfl⟩
      · have e : n < 4398046511104 := by omega
        have HE : Hid (6 = Num.sz n) := hs
        clear hc hk2 hk1 hs
        go_wp2_with (go_at_call 37; refine (len_is0 _ _ (by omega)).mono ?_; rintro e w' ⟨rfl, rfl⟩)
        try rw [Exit.noGoto_ret]
        go_ret
        exact ⟨by rw [← HE.out]; rfl, rfl⟩
      · have e : n < 562949953421312 := by omega
        have HE : Hid (7 = Num.sz n) := hs
        clear hc hk2 hk1 hs
        go_wp2_with (go_at_call 37; refine (len_is0 _ _ (by omega)).mono ?_; rintro e w' ⟨rfl, rfl⟩)
        try rw [Exit.noGoto_ret]
        go_ret
        exact ⟨by rw [← HE.out]; rfl, rfl⟩
      · have e : n < 72057594037927936 := by omega
        have HE : Hid (8 = Num.sz n) := hs
        clear hc hk2 hk1 hs
        go_wp2_with (go_at_call 37; refine (len_is0 _ _ (by omega)).mono ?_; rintro e w' ⟨rfl, rfl⟩)
        try rw [Exit.noGoto_ret]
        go_ret
        exact ⟨by rw [← HE.out]; rfl, rfl⟩
end Go.Proofs.Ytcgimbomandjfab
