/- The document's digit, Text, Read. -/
import Derived.Test.YtcigbfjmnhogiaaGreatDoorTc
namespace Go.Proofs.YtcigbfjmnhogiaaGreatDoor
open Go.RowKit
set_option linter.unusedVariables false

theorem wraps_i64' (n : Int) (h₀ : 0 ≤ n) (h₁ : n < 2 ^ 63) : IntKind.i64.wrap n = n := by rw [IntKind.wrap_i64]; omega
set_option linter.unusedVariables false

theorem textOf_inj {x p x' p' : Nat} (hx : x ≤ 7) (hx' : x' ≤ 7) (hp : p < 4294967296) (hp' : p' < 4294967296) (h : textOf x p = textOf x' p') : x = x' ∧ p = p' := by
  have a := wr3_fgc ⟨x, by omega⟩
  have b := wr3_fgc ⟨x', by omega⟩
  simp only at a b
  have k : ∀ {y q : Nat}, bt (textOf y q) 0 = (fgc y).toNat := fun {y q} => by
    unfold textOf
    split <;> rfl
  have e : bt (textOf x p) 0 = bt (textOf x' p') 0 := by rw [h]
  rw [k, k] at e
  rw [e, b] at a
  have s : (textOf x p).size = (textOf x' p').size := by rw [h]
  refine ⟨by omega, ?_⟩
  unfold textOf at h s
  by_cases h0 : p = 0
  · by_cases h1 : p' = 0
    · omega
    · rw [if_pos h0, if_neg h1] at s
      exact absurd s (by show ¬ (1 = 10); omega)
  · by_cases h1 : p' = 0
    · rw [if_neg h0, if_pos h1] at s
      exact absurd s (by show ¬ (10 = 1); omega)
    · rw [if_neg h0, if_neg h1] at h
      have e1 := ext_tail x p
      rw [h, ext_tail] at e1
      have e2 := (of_text8 p hp).2
      rw [← e1, (of_text8 p' hp').2] at e2
      omega

theorem vread_ok (x p : Nat) (w : World) (hx : x ≤ 7) (hp : p < 4294967296) : Calls Tryz.prog 112 #[.string (textOf x p)] w fun e w' => VEnd w (le x p 0) e w' := by
  obtain ⟨X, P, E, hr, hc⟩ := vread_any (textOf x p) (by unfold textOf; split; exact (by decide : 1 ≤ 140737488355328); exact (by decide : 10 ≤ 140737488355328))
  rcases hr with ⟨x', p', hx', hp', h, rfl, rfl, rfl⟩ | ⟨h, _⟩
  · obtain ⟨rfl, rfl⟩ := textOf_inj hx hx' hp hp' h
    exact hc w
  · exact absurd rfl (h x p hx hp)

theorem vread_bad (s : ByteArray) (w : World) (hs : s.size ≤ 140737488355328) (h : ∀ x p : Nat, x ≤ 7 → p < 4294967296 → s ≠ textOf x p) : Calls Tryz.prog 112 #[.string s] w fun e w' => VEnd w (le 0 0 4) e w' := by
  obtain ⟨X, P, E, hr, hc⟩ := vread_any s hs
  rcases hr with ⟨x', p', hx', hp', h', _⟩ | ⟨_, rfl, rfl, rfl⟩
  · exact absurd h' (h x' p' hx' hp')
  · exact hc w

/-- What is no text, by its first byte, its length or its figures. -/
theorem no_text (s : ByteArray) (h1 : s.size = 1 → wr3 (bt s 0) < 0) (h10 : s.size = 10 → ¬ allF4 (s.extract 2 10) 8 ∨ val4 (s.extract 2 10) 8 = 0) : ∀ x p : Nat, x ≤ 7 → p < 4294967296 → s ≠ textOf x p := by
  intro x p hx hp h
  subst h
  unfold textOf at h1 h10
  by_cases h0 : p = 0
  · rw [if_pos h0] at h1
    have a := wr3_fgc ⟨x, by omega⟩
    simp only at a
    have b : wr3 (fgc x).toNat < 0 := h1 rfl
    omega
  · rw [if_neg h0] at h10
    rcases h10 rfl with h | h
    · rw [ext_tail] at h
      exact h (of_text8 p hp).1
    · rw [ext_tail, (of_text8 p hp).2] at h
      omega

theorem no8 : ∀ x p : Nat, x ≤ 7 → p < 4294967296 → (⟨#[56]⟩ : ByteArray) ≠ textOf x p := no_text _ (fun _ => by decide +kernel) (fun h => by cases h)
theorem no30 : ∀ x p : Nat, x ≤ 7 → p < 4294967296 → (⟨#[51, 58, 48, 48, 48, 48, 48, 48, 48, 48]⟩ : ByteArray) ≠ textOf x p := no_text _ (fun h => by cases h) (fun _ => Or.inr (by decide +kernel))
theorem no3G : ∀ x p : Nat, x ≤ 7 → p < 4294967296 → (⟨#[51, 58, 48, 48, 48, 48, 48, 48, 48, 71]⟩ : ByteArray) ≠ textOf x p := no_text _ (fun h => by cases h) (fun _ => Or.inl (fun h => absurd (h 7 (by omega)) (by decide +kernel)))

theorem eq24 (w : World) (x p y q : Int) : (Op.equalIn 10000 32 (.agg #[.int .i64 x, .int .u32 p]) (.agg #[.int .i64 y, .int .u32 q])).run Tryz.prog w = .ok ((x == y) && (p == q)) w := by
  have u3 := Tryz.underlying3
  have u22 := Tryz.underlying30
  have a3 := Tryz.isAgg3
  have a22 := Tryz.isAgg22
  rw [show (10000 : Nat) = 9999 + 1 from rfl, run_equalIn_struct w 9999 32 _ _ und24 (by kernel_rfl)]
  go_simp
  by_cases h1 : x = y <;> by_cases h2 : p = q <;> simp [h1, h2]

theorem ex1 : ∀ d : Fin 16, figs.extract d.val (d.val + 1) = ⟨#[fgc d.val]⟩ := by decide +kernel
theorem ex1' (d : Nat) (h : d < 16) : (⟨#[48, 49, 50, 51, 52, 53, 54, 55, 56, 57, 97, 98, 99, 100, 101, 102]⟩ : ByteArray).extract d (d + 1) = ⟨#[fgc d]⟩ := ex1 ⟨d, h⟩

set_option maxRecDepth 100000 in
set_option maxHeartbeats 2000000 in
theorem rtext_bad (x p : Int) (w : World) (h : okL x = false) :
    Calls Tryz.prog 35 #[.agg #[.int .i64 x, .int .u32 p]] w fun e w' => VEnd w (.string ⟨#[]⟩) e w' := by
  have H := hd h
  clear h
  go_enter Tryz.func35, Tryz.ntmps35
  go_wp2_with fail
  refine (may_any x p _).mono ?_
  rintro e w2 ⟨rfl, hk⟩
  have B := hd (below_below (below1 w (Obj.cells #[Value.int IntKind.i64 x, Value.int IntKind.u32 p] 32)) hk)
  clear hk
  rw [H.out]
  go_wp2_with fail
  go_ret
  exact VEnd.mk B.out

set_option maxRecDepth 100000 in
set_option maxHeartbeats 2000000 in
theorem rtext_ok (x p : Nat) (w : World) (hx : x ≤ 7) (hp : p < 4294967296) :
    Calls Tryz.prog 35 #[.agg #[.int .i64 (x : Int), .int .u32 (p : Int)]] w fun e w' => VEnd w (.string (textOf x p)) e w' := by
  have H : Hid (okL (x : Int) = true) := hd (by unfold okL; simp; omega)
  have HX : Hid ((⟨#[48, 49, 50, 51, 52, 53, 54, 55, 56, 57, 97, 98, 99, 100, 101, 102]⟩ : ByteArray).extract x (x + 1) = ⟨#[fgc x]⟩) := hd (ex1' x (by omega))
  have hx0 : (0 : Int) ≤ (x : Int) := by omega
  have hx7 : (x : Int) ≤ 7 := by omega
  have hx8 : (x : Int) + 1 ≤ 16 := by omega
  have hx9 : (x : Int) ≤ (x : Int) + 1 := by omega
  have hwr : IntKind.i64.wrap ((x : Int) + 1) = (x : Int) + 1 := wraps_i64' _ (by omega) (by omega)
  go_enter Tryz.func35, Tryz.ntmps35
  go_wp2_with fail
  have A1 := Lb.new w (x : Int) (p : Int)
  have B1 := below1 w (Obj.cells #[Value.int IntKind.i64 (x : Int), Value.int IntKind.u32 (p : Int)] 32)
  generalize w.alloc (Obj.cells #[Value.int IntKind.i64 (x : Int), Value.int IntKind.u32 (p : Int)] 32) = w1 at *
  refine (may_any (x : Int) (p : Int) w1).mono ?_
  rintro e w2 ⟨rfl, hk⟩
  have B2 := hd (below_below B1 hk)
  have A2 := hd (A1.keep hk)
  have c0 := A2.out.c0
  have c1 := A2.out.c1
  clear hk A1 B1
  rw [H.out]
  by_cases h0 : p = 0
  · subst h0
    have HT : Hid (textOf x 0 = ⟨#[fgc x]⟩) := hd (by unfold textOf; rw [if_pos rfl])
    go_wp2_with fail
    go_ret
    exact VEnd.eq (VEnd.mk B2.out) (by rw [HT.out, ← HX.out]; rfl)
  · have h0' : ((p : Int) == 0) = false := by rw [beq_eq_false_iff_ne]; omega
    have HT : Hid (textOf x p = ⟨(fgc x :: 58 :: text8 p).toArray⟩) := hd (by unfold textOf; rw [if_neg h0])
    have hand : ∀ n : Nat, n < 4294967296 → bits .and .u32 (n : Int) 15 = ((n % 16 : Nat) : Int) := fun n hn => by
      have e := u32_and_nat n 15 hn (by omega)
      rw [Nat.and_two_pow_sub_one_eq_mod n 4] at e
      exact e
    obtain ⟨d0, hd0⟩ : ∃ d, p / 268435456 % 16 = d := ⟨_, rfl⟩
    have k0 : bits .and .u32 ((p : Int) / 268435456) 15 = (d0 : Int) := by
      have e := hand (p / 268435456) (by omega)
      rw [hd0] at e
      rw [show ((p / 268435456 : Nat) : Int) = (p : Int) / 268435456 by omega] at e
      exact e
    have E0 := hd (ex1' d0 (by omega))
    have a0 : ((d0 : Int) + 1) % 4294967296 = (d0 : Int) + 1 := by omega
    have b0 : (d0 : Int) + 1 ≤ 16 := by omega
    have g0 : (d0 : Int) ≤ (d0 : Int) + 1 := by omega
    have z0 : (0 : Int) ≤ (d0 : Int) := by omega
    obtain ⟨d1, hd1⟩ : ∃ d, p / 16777216 % 16 = d := ⟨_, rfl⟩
    have k1 : bits .and .u32 ((p : Int) / 16777216) 15 = (d1 : Int) := by
      have e := hand (p / 16777216) (by omega)
      rw [hd1] at e
      rw [show ((p / 16777216 : Nat) : Int) = (p : Int) / 16777216 by omega] at e
      exact e
    have E1 := hd (ex1' d1 (by omega))
    have a1 : ((d1 : Int) + 1) % 4294967296 = (d1 : Int) + 1 := by omega
    have b1 : (d1 : Int) + 1 ≤ 16 := by omega
    have g1 : (d1 : Int) ≤ (d1 : Int) + 1 := by omega
    have z1 : (0 : Int) ≤ (d1 : Int) := by omega
    obtain ⟨d2, hd2⟩ : ∃ d, p / 1048576 % 16 = d := ⟨_, rfl⟩
    have k2 : bits .and .u32 ((p : Int) / 1048576) 15 = (d2 : Int) := by
      have e := hand (p / 1048576) (by omega)
      rw [hd2] at e
      rw [show ((p / 1048576 : Nat) : Int) = (p : Int) / 1048576 by omega] at e
      exact e
    have E2 := hd (ex1' d2 (by omega))
    have a2 : ((d2 : Int) + 1) % 4294967296 = (d2 : Int) + 1 := by omega
    have b2 : (d2 : Int) + 1 ≤ 16 := by omega
    have g2 : (d2 : Int) ≤ (d2 : Int) + 1 := by omega
    have z2 : (0 : Int) ≤ (d2 : Int) := by omega
    obtain ⟨d3, hd3⟩ : ∃ d, p / 65536 % 16 = d := ⟨_, rfl⟩
    have k3 : bits .and .u32 ((p : Int) / 65536) 15 = (d3 : Int) := by
      have e := hand (p / 65536) (by omega)
      rw [hd3] at e
      rw [show ((p / 65536 : Nat) : Int) = (p : Int) / 65536 by omega] at e
      exact e
    have E3 := hd (ex1' d3 (by omega))
    have a3 : ((d3 : Int) + 1) % 4294967296 = (d3 : Int) + 1 := by omega
    have b3 : (d3 : Int) + 1 ≤ 16 := by omega
    have g3 : (d3 : Int) ≤ (d3 : Int) + 1 := by omega
    have z3 : (0 : Int) ≤ (d3 : Int) := by omega
    obtain ⟨d4, hd4⟩ : ∃ d, p / 4096 % 16 = d := ⟨_, rfl⟩
    have k4 : bits .and .u32 ((p : Int) / 4096) 15 = (d4 : Int) := by
      have e := hand (p / 4096) (by omega)
      rw [hd4] at e
      rw [show ((p / 4096 : Nat) : Int) = (p : Int) / 4096 by omega] at e
      exact e
    have E4 := hd (ex1' d4 (by omega))
    have a4 : ((d4 : Int) + 1) % 4294967296 = (d4 : Int) + 1 := by omega
    have b4 : (d4 : Int) + 1 ≤ 16 := by omega
    have g4 : (d4 : Int) ≤ (d4 : Int) + 1 := by omega
    have z4 : (0 : Int) ≤ (d4 : Int) := by omega
    obtain ⟨d5, hd5⟩ : ∃ d, p / 256 % 16 = d := ⟨_, rfl⟩
    have k5 : bits .and .u32 ((p : Int) / 256) 15 = (d5 : Int) := by
      have e := hand (p / 256) (by omega)
      rw [hd5] at e
      rw [show ((p / 256 : Nat) : Int) = (p : Int) / 256 by omega] at e
      exact e
    have E5 := hd (ex1' d5 (by omega))
    have a5 : ((d5 : Int) + 1) % 4294967296 = (d5 : Int) + 1 := by omega
    have b5 : (d5 : Int) + 1 ≤ 16 := by omega
    have g5 : (d5 : Int) ≤ (d5 : Int) + 1 := by omega
    have z5 : (0 : Int) ≤ (d5 : Int) := by omega
    obtain ⟨d6, hd6⟩ : ∃ d, p / 16 % 16 = d := ⟨_, rfl⟩
    have k6 : bits .and .u32 ((p : Int) / 16) 15 = (d6 : Int) := by
      have e := hand (p / 16) (by omega)
      rw [hd6] at e
      rw [show ((p / 16 : Nat) : Int) = (p : Int) / 16 by omega] at e
      exact e
    have E6 := hd (ex1' d6 (by omega))
    have a6 : ((d6 : Int) + 1) % 4294967296 = (d6 : Int) + 1 := by omega
    have b6 : (d6 : Int) + 1 ≤ 16 := by omega
    have g6 : (d6 : Int) ≤ (d6 : Int) + 1 := by omega
    have z6 : (0 : Int) ≤ (d6 : Int) := by omega
    obtain ⟨d7, hd7⟩ : ∃ d, p % 16 = d := ⟨_, rfl⟩
    have k7 : bits .and .u32 ((p : Int)) 15 = (d7 : Int) := by
      have e := hand (p) (by omega)
      rw [hd7] at e
      exact e
    have E7 := hd (ex1' d7 (by omega))
    have a7 : ((d7 : Int) + 1) % 4294967296 = (d7 : Int) + 1 := by omega
    have b7 : (d7 : Int) + 1 ≤ 16 := by omega
    have g7 : (d7 : Int) ≤ (d7 : Int) + 1 := by omega
    have z7 : (0 : Int) ≤ (d7 : Int) := by omega
    have H8 : Hid (text8 p = [fgc d0, fgc d1, fgc d2, fgc d3, fgc d4, fgc d5, fgc d6, fgc d7]) := hd (by unfold text8; rw [hd0, hd1, hd2, hd3, hd4, hd5, hd6, hd7])
    clear hand hd0 hd1 hd2 hd3 hd4 hd5 hd6 hd7
    go_wp2_with fail
    go_rounds 9
    go_wp2_with fail
    go_ret
    refine VEnd.eq (VEnd.mk B2.out) ?_
    rw [HT.out, H8.out]
    show Value.string (_ ++ _) = _
    rw [HX.out, E0.out, E1.out, E2.out, E3.out, E4.out, E5.out, E6.out, E7.out]
    rfl

theorem wr4_at : ∀ k : Fin 16, wr4 (figs[k.val]'(by have := k.isLt; exact this)).toNat = (k.val : Int) := by decide +kernel
theorem wr4_no : ∀ c : Fin 256, (∀ k : Fin 16, (figs[k.val]'(by have := k.isLt; exact this)).toNat ≠ c.val) → wr4 c.val = -1 := by decide +kernel

set_option maxRecDepth 100000 in
set_option maxHeartbeats 2000000 in
theorem digit_any (c : Nat) (w : World) (hc : c < 256) :
    Calls Tryz.prog 99 #[.int .u8 (c : Int)] w fun e w' => VEnd w (.int .i64 (wr4 c)) e w' := by
  obtain ⟨d, hd0⟩ : ∃ d, wr4 c = d := ⟨_, rfl⟩
  rw [hd0]
  have HD := hd hd0
  clear hd0
  go_enter Tryz.func99, Tryz.ntmps99
  go_wp2_with fail
  go_loopw [3] (fun i wr => ∃ k : Nat, k ≤ 16 ∧ i = .int .i64 (k : Int) ∧ (∀ j : Fin 16, j.val < k → (figs[j.val]'(by have := j.isLt; exact this)).toNat ≠ c) ∧ Below w.heap.size w wr) (fun i _ => 16 - (intOf i).toNat)
  case atStart => exact ⟨0, Nat.zero_le _, rfl, fun j hj => absurd hj (by omega), Below.refl _ _⟩
  case round =>
    obtain ⟨k, hk, rfl, ha, hb⟩ := hrel
    have HA := hd ha
    have HB := hd hb
    clear ha hb
    by_cases hlt : k < 16
    · have hlt' : (k : Int) < 16 := by omega
      by_cases he : (figs[k]'hlt).toNat = c
      · have he' : (((figs[k]'hlt).toNat : Int) == (c : Int)) = true := by rw [he]; simp
        have HE : Hid ((k : Int) = d) := hd (by rw [← HD.out, ← he]; exact (wr4_at ⟨k, hlt⟩).symm)
        unfold figs at he'
        go_wp2_with fail
        go_ret
        exact VEnd.eq (VEnd.mk HB.out) (by rw [← HE.out]; rfl)
      · have he' : (((figs[k]'hlt).toNat : Int) == (c : Int)) = false := by rw [beq_eq_false_iff_ne]; omega
        have HE := hd he
        unfold figs at he'
        clear he
        go_wp2_with fail
        go_roundw
        case rel =>
          refine ⟨k + 1, by omega, by go_num, fun j hj => ?_, HB.out⟩
          by_cases hjk : j.val = k
          · have e : j = ⟨k, hlt⟩ := Fin.ext hjk
            rw [e]
            exact HE.out
          · exact HA.out j (by omega)
        case measure => simp [intOf]; omega
    · have hk16 : k = 16 := by omega
      subst hk16
      have HE : Hid (d = -1) := hd (by rw [← HD.out]; exact wr4_no ⟨c, hc⟩ (fun j => HA.out j j.isLt))
      go_wp2_with fail
      go_ret
      exact VEnd.eq (VEnd.mk HB.out) (by rw [HE.out]; rfl)

theorem str_inj {a b : ByteArray} (h : a.toList = b.toList) : a = b := by
  rw [ByteArray.toList_eq, ByteArray.toList_eq] at h
  exact ByteArray.ext (Array.toList_inj.1 h)
theorem str_some (s : ByteArray) (h : 0 < s.size) : s.toList.isEmpty = false := by
  rw [ByteArray.toList_eq]
  obtain ⟨⟨l⟩⟩ := s
  cases l with
  | nil => exact absurd h (Nat.lt_irrefl 0)
  | cons a l => rfl

/-- The number of the figures from the third on, up to place k. -/
def vf (s : ByteArray) : Nat → Int
  | 0 => 0
  | k + 1 => if k < 2 then 0 else vf s k * 16 + wr4 (bt s k)

theorem vf2 (s : ByteArray) : vf s 2 = 0 := rfl
theorem vf_succ (s : ByteArray) (k : Nat) (hk : 2 ≤ k) : vf s (k + 1) = vf s k * 16 + wr4 (bt s k) := by
  rw [vf, if_neg (by omega)]
theorem vf_bd (s : ByteArray) : ∀ k, (∀ j, 2 ≤ j → j < k → 0 ≤ wr4 (bt s j)) → 0 ≤ vf s k ∧ vf s k < 16 ^ (k - 2)
  | 0, _ => by constructor <;> simp [vf]
  | k + 1, h => by
    by_cases hk : k < 2
    · rw [vf, if_pos hk]
      exact ⟨by omega, Int.pow_pos (by omega)⟩
    · rw [vf, if_neg hk]
      have ih := vf_bd s k (fun j h1 h2 => h j h1 (by omega))
      have h1 := h k (by omega) (by omega)
      have h2 := wr4_lt (bt s k)
      rw [show k + 1 - 2 = (k - 2) + 1 by omega, Int.pow_succ]
      omega
theorem pow16 (m n : Nat) (h : m ≤ n) : (16 : Int) ^ m ≤ 16 ^ n := by
  have h1 := Nat.pow_le_pow_right (n := 16) (by omega) h
  have e : ∀ k : Nat, (16 : Int) ^ k = ((16 ^ k : Nat) : Int) := fun k => by rw [Int.natCast_pow]; rfl
  rw [e, e]
  exact Int.ofNat_le.2 h1
theorem vf_le (s : ByteArray) (k : Nat) (hk : k < 10) (h : ∀ j, 2 ≤ j → j < k → 0 ≤ wr4 (bt s j)) : 0 ≤ vf s k ∧ vf s k < 268435456 := by
  have h1 := vf_bd s k h
  have h2 : (16 : Int) ^ (k - 2) ≤ 16 ^ 7 := pow16 _ _ (by omega)
  have e : (16 : Int) ^ 7 = 268435456 := by decide
  omega
theorem vf_le10 (s : ByteArray) (k : Nat) (hk : k ≤ 10) (h : ∀ j, 2 ≤ j → j < k → 0 ≤ wr4 (bt s j)) : 0 ≤ vf s k ∧ vf s k < 4294967296 := by
  have h1 := vf_bd s k h
  have h2 : (16 : Int) ^ (k - 2) ≤ 16 ^ 8 := pow16 _ _ (by omega)
  have e : (16 : Int) ^ 8 = 4294967296 := by decide
  omega

/-- What a label's text has at its places. -/
theorem of_text (x p : Nat) (hx : x ≤ 7) (hp : p < 4294967296) : wr4 (bt (textOf x p) 0) = x ∧ (((textOf x p).size = 1 ∧ p = 0) ∨ ((textOf x p).size = 10 ∧ (∀ j, 2 ≤ j → j < 10 → 0 ≤ wr4 (bt (textOf x p) j)) ∧ vf (textOf x p) 10 = p)) := by
  have hw := wr4_fgc ⟨x, by omega⟩
  simp only at hw
  unfold textOf
  by_cases h0 : p = 0
  · rw [if_pos h0]
    exact ⟨hw, Or.inl ⟨rfl, h0⟩⟩
  · rw [if_neg h0]
    obtain ⟨ha, hv⟩ := of_text8 p hp
    refine ⟨hw, Or.inr ⟨rfl, fun j h1 h2 => ?_, ?_⟩⟩
    · have h := ha (j - 2) (by omega)
      obtain ⟨i, rfl⟩ : ∃ i, j = i + 2 := ⟨j - 2, by omega⟩
      rw [Nat.add_sub_cancel] at h
      exact h
    · have e : ∀ j, bt ⟨(fgc x :: 58 :: text8 p).toArray⟩ (j + 2) = bt ⟨(text8 p).toArray⟩ j := fun j => rfl
      rw [vf_succ _ 9 (by omega), vf_succ _ 8 (by omega), vf_succ _ 7 (by omega), vf_succ _ 6 (by omega), vf_succ _ 5 (by omega), vf_succ _ 4 (by omega), vf_succ _ 3 (by omega), vf_succ _ 2 (by omega), vf2]
      rw [← hv]
      simp only [val4]
      rw [e 0, e 1, e 2, e 3, e 4, e 5, e 6, e 7]

/-- The text is no label's, by what the walk has seen. -/
theorem no_len (s : ByteArray) (h1 : s.size ≠ 1) (h2 : s.size ≠ 10) : ∀ x p : Nat, x ≤ 7 → p < 4294967296 → s ≠ textOf x p := by
  intro x p hx hp h
  rcases (of_text x p hx hp).2 with ⟨h3, _⟩ | ⟨h3, _⟩
  · rw [← h] at h3; exact h1 h3
  · rw [← h] at h3; exact h2 h3
theorem no_fig (s : ByteArray) (hs : s.size = 10) (j : Nat) (hj : 2 ≤ j) (hj2 : j < 10) (h : wr4 (bt s j) < 0) : ∀ x p : Nat, x ≤ 7 → p < 4294967296 → s ≠ textOf x p := by
  intro x p hx hp e
  rcases (of_text x p hx hp).2 with ⟨h3, _⟩ | ⟨_, h3, _⟩
  · rw [← e] at h3; omega
  · have := h3 j hj hj2
    rw [← e] at this
    omega
theorem no_same (s : ByteArray) (n : Nat) (hs : s.size = n) (hn : n = 1 ∨ n = 10) (h : ∀ L V : Nat, (L : Int) = wr4 (bt s 0) → (V : Int) = vf s (max 2 n) → L ≤ 7 → textOf L V ≠ s) : ∀ x p : Nat, x ≤ 7 → p < 4294967296 → s ≠ textOf x p := by
  intro x p hx hp e
  obtain ⟨h1, h2⟩ := of_text x p hx hp
  rw [← e] at h1
  refine h x p h1.symm ?_ hx e.symm
  rcases h2 with ⟨h3, h4⟩ | ⟨h3, _, h4⟩
  · rw [← e, hs] at h3
    subst h3
    rw [show max 2 1 = 2 by rfl, vf2, h4]
    rfl
  · rw [← e, hs] at h3
    subst h3
    rw [← e] at h4
    rw [show max 2 10 = 10 by rfl, h4]

theorem RdP.uniq {s : ByteArray} {X P E X' P' E' : Int} (h : RdP s X P E) (h' : RdP s X' P' E') : X = X' ∧ P = P' ∧ E = E' := by
  rcases h with ⟨x, p, hx, hp, e, rfl, rfl, rfl⟩ | ⟨h, rfl, rfl, rfl⟩
  · rcases h' with ⟨x', p', hx', hp', e', rfl, rfl, rfl⟩ | ⟨h', _⟩
    · rw [e] at e'
      obtain ⟨rfl, rfl⟩ := textOf_inj hx hx' hp hp' e'
      exact ⟨rfl, rfl, rfl⟩
    · exact absurd e (h' x p hx hp)
  · rcases h' with ⟨x', p', hx', hp', e', _⟩ | ⟨_, rfl, rfl, rfl⟩
    · exact absurd e' (h x' p' hx' hp')
    · exact ⟨rfl, rfl, rfl⟩
theorem RdP.same {s : ByteArray} {X P E X' P' E' : Int} (h : RdP s X P E) (h' : RdP s X' P' E') : le X P E = le X' P' E' := by
  obtain ⟨rfl, rfl, rfl⟩ := h.uniq h'
  rfl

/-- Block N is a zero label, block g this one. -/
structure RR (w : World) (N g : Nat) (x p : Int) (W : World) : Prop where
  bel : Below w.heap.size w W
  r : Lb W N 0 0
  o : Lb W g x p
  ge : w.heap.size ≤ N
  ne : N < g
theorem RR.call {w W W' : World} {N g : Nat} {x p : Int} (h : RR w N g x p W) (k : Below W.heap.size W W') : RR w N g x p W' := ⟨below_below h.bel k, h.r.keep k, h.o.keep k, h.ge, h.ne⟩
theorem RR.set1 {w W : World} {N g : Nat} {x p : Int} (h : RR w N g x p W) (p' : Int) : RR w N g x p' (W.setCell ⟨g, 1, none⟩ (.int .u32 p')) :=
  ⟨below_setCell h.bel _ _ (by show w.heap.size ≤ g; have h1 := h.ge; have h2 := h.ne; omega), h.r.other _ _ (show N ≠ g by have := h.ne; omega), h.o.set1 _, h.ge, h.ne⟩

set_option maxRecDepth 100000 in
set_option maxHeartbeats 4000000 in
theorem rread_is (s : ByteArray) (X P E : Int) (hs : s.size ≤ 140737488355328) (hr : RdP s X P E) (w : World) : Calls Tryz.prog 82 #[.string s] w fun e w' => VEnd w (le X P E) e w' := by
  have HR := hd hr
  clear hr
  have TOK : Hid (∀ (L V : Nat) w, L ≤ 7 → V < 4294967296 → Calls Tryz.prog 35 #[.agg #[.int .i64 (L : Int), .int .u32 (V : Int)]] w fun e w' => VEnd w (.string (textOf L V)) e w') := hd fun L V w h1 h2 => rtext_ok L V w h1 h2
  by_cases h1 : s.size = 1
  · have hs1 := h1
    clear hs
    have hn0 : 0 < s.size := by omega
    obtain ⟨c, hc⟩ : ∃ c, (s[0]'hn0).toNat = c := ⟨_, rfl⟩
    have hc256 : c < 256 := by rw [← hc]; exact (s[0]'hn0).toNat_lt
    obtain ⟨L, hL⟩ : ∃ L, wr4 c = L := ⟨_, rfl⟩
    have HL : Hid (wr4 (bt s 0) = L) := hd (by rw [← bt_eq s 0 hn0, hc]; exact hL)
    have DG := hd fun w => digit_any c w hc256
    rw [hL] at DG
    clear hL
    go_enter Tryz.func82, Tryz.ntmps82
    go_wp2_with fail
    have A1 := Lb.new w 0 0
    have B1 := below1 w (Obj.cells #[Value.int IntKind.i64 0, Value.int IntKind.u32 0] 32)
    generalize w.alloc (Obj.cells #[Value.int IntKind.i64 0, Value.int IntKind.u32 0] 32) = w1 at *
    refine (DG.out _).mono ?_
    rintro e w2 ⟨rfl, hk⟩
    have A2 := A1.keep hk
    have B2 := below_below B1 hk
    clear A1 B1 hk hc
    go_wp2_with fail
    have R3 := hd (show RR w w.heap.size w2.heap.size L 0 (w2.alloc (Obj.cells #[Value.int IntKind.i64 L, Value.int IntKind.u32 0] 32)) from ⟨below_below B2 (below1 _ _), A2.alloc _, Lb.new _ _ _, Nat.le_refl _, A2.lt⟩)
    clear A2 B2
    generalize w2.heap.size = g at *
    generalize w2.alloc (Obj.cells #[Value.int IntKind.i64 L, Value.int IntKind.u32 0] 32) = w3 at *
    obtain ⟨V, hV⟩ : ∃ V : Int, 0 = V := ⟨_, rfl⟩
    rw [hV] at R3
    have HV : Hid (vf s (max 2 1) = V) := hd (by rw [← hV]; rfl)
    have HVB : Hid (0 ≤ V ∧ V < 4294967296) := hd (by omega)
    clear hV
    go_loopw [5] (fun i wr => i = .int .i64 2 ∧ RR w w.heap.size g L V wr) (fun _ _ => 0)
    case atStart => exact ⟨rfl, R3.out⟩
    case round =>
      clear R3
      obtain ⟨rfl, hb⟩ := hrel
      have RB := hd hb
      clear hb
      have c0 := RB.out.o.c0
      have c1 := RB.out.o.c1
      cases ho : okL L
      · have HO := hd ho
        clear ho
        have hne : s.toList.isEmpty = false := str_some s (by omega)
        go_wp2_with fail
        refine (rtext_bad L V _ HO.out).mono ?_
        rintro e w' ⟨rfl, hk'⟩
        have RE := hd (RB.out.call hk')
        clear hk' c0 c1 RB
        have c0 := RE.out.o.c0
        have c1 := RE.out.o.c1
        have r0 := RE.out.r.c0
        have r1 := RE.out.r.c1
        have f0 := RE.out.r.fz 0
        have f1 := RE.out.r.fz 1
        go_wp2_with fail
        refine bodyPost_ret (res_lab_err rfl _ _ w.heap.size _ _ rfl ((RE.out.r.set0 _).set1 _)) rfl ?_
        exact VEnd.eq (VEnd.mk (below_set2 RE.out.bel w.heap.size _ _ (Nat.le_refl _))) (RdP.same (RdP.bad (no_same s 1 hs1 (by omega) (fun L' V' h1 _ h3 => by have h4 := okL_false HO.out; have h5 := HL.out; omega))) HR.out)
      · have HO := hd (okL_true ho)
        clear ho
        obtain ⟨L', hL'⟩ := Int.eq_ofNat_of_zero_le HO.out.1
        obtain ⟨V', hV'⟩ := Int.eq_ofNat_of_zero_le HVB.out.1
        have hL7 : L' ≤ 7 := by have := HO.out; omega
        have hV32 : V' < 4294967296 := by have := HVB.out; omega
        subst hL' hV'
        by_cases heq : textOf L' V' = s
        · have HE := hd heq
          have hq : ((textOf L' V').toList == s.toList) = true := by rw [heq]; exact beq_self_eq_true _
          clear heq
          go_wp2_with fail
          refine (TOK.out L' V' _ hL7 hV32).mono ?_
          rintro e w' ⟨rfl, hk'⟩
          have RE := hd (RB.out.call hk')
          clear hk' c0 c1 RB
          have c0 := RE.out.o.c0
          have c1 := RE.out.o.c1
          have r0 := RE.out.r.c0
          have r1 := RE.out.r.c1
          have f0 := RE.out.r.fz 0
          have f1 := RE.out.r.fz 1
          go_wp2_with fail
          refine bodyPost_ret (res_lab_err rfl _ _ w.heap.size _ _ rfl ((RE.out.r.set0 _).set1 _)) rfl ?_
          exact VEnd.eq (VEnd.mk (below_set2 RE.out.bel w.heap.size _ _ (Nat.le_refl _))) (RdP.same (RdP.ok L' V' hL7 hV32 HE.out.symm) HR.out)
        · have HE := hd heq
          have hq : ((textOf L' V').toList == s.toList) = false := by rw [beq_eq_false_iff_ne]; exact fun e => heq (str_inj e)
          clear heq
          go_wp2_with fail
          refine (TOK.out L' V' _ hL7 hV32).mono ?_
          rintro e w' ⟨rfl, hk'⟩
          have RE := hd (RB.out.call hk')
          clear hk' c0 c1 RB
          have c0 := RE.out.o.c0
          have c1 := RE.out.o.c1
          have r0 := RE.out.r.c0
          have r1 := RE.out.r.c1
          have f0 := RE.out.r.fz 0
          have f1 := RE.out.r.fz 1
          go_wp2_with fail
          refine bodyPost_ret (res_lab_err rfl _ _ w.heap.size _ _ rfl ((RE.out.r.set0 _).set1 _)) rfl ?_
          exact VEnd.eq (VEnd.mk (below_set2 RE.out.bel w.heap.size _ _ (Nat.le_refl _))) (RdP.same (RdP.bad (no_same s 1 hs1 (by omega) (fun L2 V2 h1 h2 h3 h4 => HE.out (by have e1 : L' = L2 := (by have h5 := HL.out; omega); have e2 : V' = V2 := (by have h5 := HV.out; rw [← h2] at h5; omega); rw [e1, e2]; exact h4)))) HR.out)
  · by_cases h10 : s.size = 10
    · have hs1 := h10
      clear hs h1
      have hn0 : 0 < s.size := by omega
      obtain ⟨c, hc⟩ : ∃ c, (s[0]'hn0).toNat = c := ⟨_, rfl⟩
      have hc256 : c < 256 := by rw [← hc]; exact (s[0]'hn0).toNat_lt
      obtain ⟨L, hL⟩ : ∃ L, wr4 c = L := ⟨_, rfl⟩
      have HL : Hid (wr4 (bt s 0) = L) := hd (by rw [← bt_eq s 0 hn0, hc]; exact hL)
      have DG := hd fun w => digit_any c w hc256
      rw [hL] at DG
      clear hL
      go_enter Tryz.func82, Tryz.ntmps82
      go_wp2_with fail
      have A1 := Lb.new w 0 0
      have B1 := below1 w (Obj.cells #[Value.int IntKind.i64 0, Value.int IntKind.u32 0] 32)
      generalize w.alloc (Obj.cells #[Value.int IntKind.i64 0, Value.int IntKind.u32 0] 32) = w1 at *
      refine (DG.out _).mono ?_
      rintro e w2 ⟨rfl, hk⟩
      have A2 := A1.keep hk
      have B2 := below_below B1 hk
      clear A1 B1 hk hc
      go_wp2_with fail
      have R3 := hd (show RR w w.heap.size w2.heap.size L 0 (w2.alloc (Obj.cells #[Value.int IntKind.i64 L, Value.int IntKind.u32 0] 32)) from ⟨below_below B2 (below1 _ _), A2.alloc _, Lb.new _ _ _, Nat.le_refl _, A2.lt⟩)
      clear A2 B2
      generalize w2.heap.size = g at *
      generalize w2.alloc (Obj.cells #[Value.int IntKind.i64 L, Value.int IntKind.u32 0] 32) = w3 at *
      go_loopw [5] (fun i wr => ∃ k : Nat, 2 ≤ k ∧ k ≤ 10 ∧ i = .int .i64 (k : Int) ∧ (∀ j, 2 ≤ j → j < k → 0 ≤ wr4 (bt s j)) ∧ RR w w.heap.size g L (vf s k) wr) (fun i _ => 10 - (intOf i).toNat)
      case atStart => exact ⟨2, by omega, by omega, rfl, fun j h1 h2 => absurd h2 (by omega), R3.out⟩
      case round =>
        clear R3
        obtain ⟨k, hk2, hk10, rfl, ha, hb⟩ := hrel
        have HA := hd ha
        obtain ⟨V, hV⟩ : ∃ V, vf s k = V := ⟨_, rfl⟩
        rw [hV] at hb
        have HV0 := hd hV
        have RB := hd hb
        clear ha hb hV
        by_cases hlt : k < 10
        · have hlt' : (k : Int) < 10 := by omega
          have hks : k < s.size := by omega
          obtain ⟨c, hc⟩ : ∃ c, (s[k]'hks).toNat = c := ⟨_, rfl⟩
          have hc256 : c < 256 := by rw [← hc]; exact (s[k]'hks).toNat_lt
          obtain ⟨d, hd0⟩ : ∃ d, wr4 c = d := ⟨_, rfl⟩
          have HD : Hid (wr4 (bt s k) = d) := hd (by rw [← bt_eq s k hks, hc]; exact hd0)
          have DG2 := hd fun w => digit_any c w hc256
          rw [hd0] at DG2
          clear hd0
          go_wp2_with fail
          refine (DG2.out _).mono ?_
          rintro e w5 ⟨rfl, hk5⟩
          have R5 := hd (RB.out.call hk5)
          clear hk5 RB hc
          by_cases hdn : d < 0
          · have r0 := R5.out.r.c0
            have r1 := R5.out.r.c1
            have f0 := R5.out.r.fz 0
            have f1 := R5.out.r.fz 1
            go_wp2_with fail
            refine bodyPost_ret (res_lab_err rfl _ _ w.heap.size _ _ rfl ((R5.out.r.set0 _).set1 _)) rfl ?_
            exact VEnd.eq (VEnd.mk (below_set2 R5.out.bel w.heap.size _ _ (Nat.le_refl _))) (RdP.same (RdP.bad (no_fig s hs1 k hk2 hlt (by rw [HD.out]; exact hdn))) HR.out)
          · have hdp : 0 ≤ d := by omega
            have hd16 : d < 16 := by rw [← HD.out]; exact wr4_lt _
            have hvb := vf_le s k hlt HA.out
            rw [HV0.out] at hvb
            obtain ⟨V1, hV1⟩ : ∃ V1, V * 16 = V1 := ⟨_, rfl⟩
            obtain ⟨V2, hV2⟩ : ∃ V2, V1 + d = V2 := ⟨_, rfl⟩
            have HV2 : Hid (vf s (k + 1) = V2) := hd (by rw [vf_succ s k hk2, HV0.out, HD.out, hV1, hV2])
            have e1 : IntKind.u32.wrap (V * 16) = V1 := by
              show V * 16 % 4294967296 = V1
              omega
            have e2 : IntKind.u32.wrap d = d := by
              show d % 4294967296 = d
              omega
            have e3 : IntKind.u32.wrap (V1 + d) = V2 := by
              show (V1 + d) % 4294967296 = V2
              omega
            clear hV1 hV2 hvb
            have c0 := R5.out.o.c0
            have c1 := R5.out.o.c1
            have f0 := R5.out.o.fz 0
            have f1 := R5.out.o.fz 1
            go_wp2_with fail
            go_roundw
            case rel =>
              refine ⟨k + 1, by omega, by omega, by go_num, fun j h1 h2 => ?_, by rw [HV2.out]; exact R5.out.set1 _⟩
              by_cases hjk : j = k
              · rw [hjk, HD.out]; exact hdp
              · exact HA.out j h1 (by omega)
            case measure => simp [intOf]; omega
        · have hk : k = 10 := by omega
          subst hk
          have HV : Hid (vf s (max 2 10) = V) := HV0
          have HVB : Hid (0 ≤ V ∧ V < 4294967296) := hd (by rw [← HV0.out]; exact vf_le10 s 10 (Nat.le_refl _) HA.out)
          have c0 := RB.out.o.c0
          have c1 := RB.out.o.c1
          cases ho : okL L
          · have HO := hd ho
            clear ho
            have hne : s.toList.isEmpty = false := str_some s (by omega)
            go_wp2_with fail
            refine (rtext_bad L V _ HO.out).mono ?_
            rintro e w' ⟨rfl, hk'⟩
            have RE := hd (RB.out.call hk')
            clear hk' c0 c1 RB
            have c0 := RE.out.o.c0
            have c1 := RE.out.o.c1
            have r0 := RE.out.r.c0
            have r1 := RE.out.r.c1
            have f0 := RE.out.r.fz 0
            have f1 := RE.out.r.fz 1
            go_wp2_with fail
            refine bodyPost_ret (res_lab_err rfl _ _ w.heap.size _ _ rfl ((RE.out.r.set0 _).set1 _)) rfl ?_
            exact VEnd.eq (VEnd.mk (below_set2 RE.out.bel w.heap.size _ _ (Nat.le_refl _))) (RdP.same (RdP.bad (no_same s 10 hs1 (by omega) (fun L' V' h1 _ h3 => by have h4 := okL_false HO.out; have h5 := HL.out; omega))) HR.out)
          · have HO := hd (okL_true ho)
            clear ho
            obtain ⟨L', hL'⟩ := Int.eq_ofNat_of_zero_le HO.out.1
            obtain ⟨V', hV'⟩ := Int.eq_ofNat_of_zero_le HVB.out.1
            have hL7 : L' ≤ 7 := by have := HO.out; omega
            have hV32 : V' < 4294967296 := by have := HVB.out; omega
            subst hL' hV'
            by_cases heq : textOf L' V' = s
            · have HE := hd heq
              have hq : ((textOf L' V').toList == s.toList) = true := by rw [heq]; exact beq_self_eq_true _
              clear heq
              go_wp2_with fail
              refine (TOK.out L' V' _ hL7 hV32).mono ?_
              rintro e w' ⟨rfl, hk'⟩
              have RE := hd (RB.out.call hk')
              clear hk' c0 c1 RB
              have c0 := RE.out.o.c0
              have c1 := RE.out.o.c1
              have r0 := RE.out.r.c0
              have r1 := RE.out.r.c1
              have f0 := RE.out.r.fz 0
              have f1 := RE.out.r.fz 1
              go_wp2_with fail
              refine bodyPost_ret (res_lab_err rfl _ _ w.heap.size _ _ rfl ((RE.out.r.set0 _).set1 _)) rfl ?_
              exact VEnd.eq (VEnd.mk (below_set2 RE.out.bel w.heap.size _ _ (Nat.le_refl _))) (RdP.same (RdP.ok L' V' hL7 hV32 HE.out.symm) HR.out)
            · have HE := hd heq
              have hq : ((textOf L' V').toList == s.toList) = false := by rw [beq_eq_false_iff_ne]; exact fun e => heq (str_inj e)
              clear heq
              go_wp2_with fail
              refine (TOK.out L' V' _ hL7 hV32).mono ?_
              rintro e w' ⟨rfl, hk'⟩
              have RE := hd (RB.out.call hk')
              clear hk' c0 c1 RB
              have c0 := RE.out.o.c0
              have c1 := RE.out.o.c1
              have r0 := RE.out.r.c0
              have r1 := RE.out.r.c1
              have f0 := RE.out.r.fz 0
              have f1 := RE.out.r.fz 1
              go_wp2_with fail
              refine bodyPost_ret (res_lab_err rfl _ _ w.heap.size _ _ rfl ((RE.out.r.set0 _).set1 _)) rfl ?_
              exact VEnd.eq (VEnd.mk (below_set2 RE.out.bel w.heap.size _ _ (Nat.le_refl _))) (RdP.same (RdP.bad (no_same s 10 hs1 (by omega) (fun L2 V2 h1 h2 h3 h4 => HE.out (by have e1 : L' = L2 := (by have h5 := HL.out; omega); have e2 : V' = V2 := (by have h5 := HV.out; rw [← h2] at h5; omega); rw [e1, e2]; exact h4)))) HR.out)
    · have HB := hd (RdP.bad (no_len s h1 h10))
      obtain ⟨n, hn⟩ : ∃ n, s.size = n := ⟨_, rfl⟩
      have h1' : ((n : Int) != 1) = true := by rw [bne_iff_ne]; omega
      have h2' : ((n : Int) != 10) = true := by rw [bne_iff_ne]; omega
      clear h1 h10 hs
      go_enter Tryz.func82, Tryz.ntmps82
      go_wp2_with fail
      refine bodyPost_ret (res_lab_err rfl _ _ w.heap.size _ _ rfl (Lb.new _ _ _)) rfl ?_
      exact VEnd.eq (VEnd.mk (below1 _ _)) (RdP.same HB.out HR.out)

end Go.Proofs.YtcigbfjmnhogiaaGreatDoor
