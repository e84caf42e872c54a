/- What the document's On and Of answer. -/
import Derived.Test.YtdhgdgcblgdefaaOn
namespace Go.Proofs.Ytdhgdgcblgdefaa
open Go.RowKit
set_option linter.unusedVariables false

theorem and1_of (r : BitVec 32) : bits .and .u32 (r.toNat : Int) 1 = if r.getLsbD 0 then 1 else 0 := by
  rw [Tab.and1]
  have h : r.getLsbD 0 = decide (r.toNat % 2 = 1) := by
    rw [BitVec.getLsbD, Nat.testBit_zero]
  rw [h]
  by_cases e : r.toNat % 2 = 1
  · rw [decide_eq_true e, if_pos rfl]; omega
  · rw [decide_eq_false e, if_neg (by decide)]; omega

theorem st_even' (r : BitVec 32) (h : r.getLsbD 0 = false) : (r.toNat : Int) / (2 : Int) = ((Crc.st r).toNat : Int) := by
  unfold Crc.st
  rw [h]
  simp only [Bool.false_eq_true, if_false, BitVec.xor_zero]
  rw [BitVec.toNat_ushiftRight, Nat.shiftRight_eq_div_pow]
  omega

theorem st_odd' (r : BitVec 32) (h : r.getLsbD 0 = true) : bits .xor .u32 ((r.toNat : Int) / (2 : Int)) 3988292384 = ((Crc.st r).toNat : Int) := by
  have e : (r.toNat : Int) / (2 : Int) = ((r >>> 1).toNat : Int) := by
    rw [BitVec.toNat_ushiftRight, Nat.shiftRight_eq_div_pow]
    omega
  have p : (3988292384 : Int) = (Crc.poly.toNat : Int) := by decide +kernel
  rw [e, p, bxor]
  unfold Crc.st
  rw [h, if_pos rfl]

theorem stn_last (n : Nat) (r : BitVec 32) : Crc.stn (n + 1) r = Crc.st (Crc.stn n r) := by
  rw [Crc.stn_add]; rfl

set_option maxRecDepth 100000 in
set_option maxHeartbeats 4000000 in
theorem ron_some (b off n cap : Nat) (s : BitVec 32) (w : World) (l : List Int) (hl : l.length = n) (hb : n ≤ 140737488355328) (ha : Byt l)
    (h1 : ∀ i, i < n → w.cell? ⟨b, off + i, none⟩ = some (.int .u8 (l.getD i 0))) :
    Calls Try.prog 13 #[.int .u32 (s.toNat : Int), .slice (some ⟨b, off, none⟩) n cap] w fun e w' => SumEnd w (Crc.on s l) e w' := by
  have H1 := hd h1
  have HL : Hid (l.length = n) := hl
  have HA := hd ha
  clear h1 hl ha
  have hnot := bnot s
  obtain ⟨r0, hr0⟩ : ∃ r0, ~~~ s = r0 := ⟨_, rfl⟩
  rw [hr0] at hnot
  have HR0 := hd hr0
  clear hr0
  generalize (s.toNat : Int) = σ at hnot
  go_enter Try.func13, Try.ntmps13
  go_wp2
  clear hnot
  go_loopw [5, 6] (fun r i wr => ∃ k : Nat, k ≤ n ∧ i = .int .i64 k ∧ r = .int .u32 ((Crc.reg r0 (l.take k)).toNat : Int) ∧ ∃ m, wr = w.drewN m) (fun _ i _ => n - (intOf i).toNat)
  case atStart => exact ⟨0, Nat.zero_le _, rfl, rfl, 0, rfl⟩
  case round =>
    obtain ⟨k, hk, rfl, rfl, m, rfl⟩ := hrel
    by_cases hlt : k < n
    · have c1 := H1.out k hlt
      have hlt' : (k : Int) < (n : Int) := by omega
      have hx := HA.out.get k
      have HS : Hid (Crc.reg r0 (l.take (k + 1)) = Crc.one (Crc.reg r0 (l.take k)) (l.getD k 0)) := reg_take_succ r0 l k (by rw [HL.out]; exact hlt)
      generalize l.getD k 0 = x at c1 hx HS
      generalize Crc.reg r0 (l.take k) = r at HS
      have e1 := bxor_byte r x hx.1 hx.2
      obtain ⟨r1, hr1⟩ : ∃ r1, r ^^^ Crc.byt x = r1 := ⟨_, rfl⟩
      rw [hr1] at e1
      have HR1 := hd hr1
      clear hr1
      generalize (r.toNat : Int) = ρ at e1
      go_wp2
      go_loopw [5, 7] (fun q i wr => ∃ j : Nat, j ≤ 8 ∧ i = .int .i64 j ∧ q = .int .u32 ((Crc.stn j r1).toNat : Int) ∧ ∃ m', wr = w.drewN m') (fun _ i _ => 8 - (intOf i).toNat)
      case atStart => exact ⟨0, Nat.zero_le _, rfl, rfl, _, rfl⟩
      case round =>
        obtain ⟨j, hj, rfl, rfl, m', rfl⟩ := hrel
        by_cases hj8 : j < 8
        · have hj' : (j : Int) < 8 := by omega
          have HJ := hd (stn_last j r1)
          generalize Crc.stn j r1 = q at HJ
          have ea := and1_of q
          cases hq : q.getLsbD 0 with
          | false =>
            rw [hq] at ea
            have ea' : bits .and .u32 (q.toNat : Int) 1 = 0 := ea
            have HE := hd (st_even' q hq)
            clear ea hq
            generalize (q.toNat : Int) = κ at ea' HE
            go_wp2
            go_roundw
            case rel => exact ⟨j + 1, by omega, by go_num, by rw [HJ.out, ← HE.out], m', rfl⟩
            case measure => simp [intOf]; omega
          | true =>
            rw [hq] at ea
            have ea' : bits .and .u32 (q.toNat : Int) 1 = 1 := ea
            have ex := st_odd' q hq
            clear ea hq
            generalize (q.toNat : Int) = κ at ea' ex
            generalize hp : Crc.st q = p at ex
            have HP := hd hp
            clear hp
            go_wp2
            go_roundw
            case rel => exact ⟨j + 1, by omega, by go_num, by rw [HJ.out, HP.out], m', rfl⟩
            case measure => simp [intOf]; omega
        · have hj9 : j = 8 := by omega
          subst hj9
          have HR : Hid (Crc.reg r0 (l.take (k + 1)) = Crc.stn 8 r1) := hd (by rw [HS.out, ← HR1.out]; rfl)
          generalize Crc.stn 8 r1 = q at HR
          go_wp2
          go_roundw
          case rel => exact ⟨k + 1, by omega, by go_num, by rw [HR.out], m', rfl⟩
          case measure => simp [intOf]; omega
    · have hkn : k = n := by omega
      subst hkn
      have HO : Hid (~~~ Crc.reg r0 (l.take k) = Crc.on s l) := hd (by
        rw [List.take_of_length_le (by rw [HL.out]; exact Nat.le_refl _), ← HR0.out]
        rfl)
      have hn := bnot (Crc.reg r0 (l.take k))
      generalize hq : ~~~ Crc.reg r0 (l.take k) = q at hn
      have HQ := hd hq
      clear hq
      generalize ((Crc.reg r0 (l.take k)).toNat : Int) = ρ at hn
      go_wp2
      all_goals go_ret
      all_goals exact ⟨by rw [← HO.out, HQ.out]; rfl, below_drewN (Below.refl _ _) m⟩

set_option maxHeartbeats 1000000 in
theorem ron_nil (s : BitVec 32) (a : Option Addr) (cap : Nat) (w : World) :
    Calls Try.prog 13 #[.int .u32 (s.toNat : Int), .slice a 0 cap] w fun e w' => SumEnd w s e w' := by
  have h1 := bnot s
  have h2 := bnot (~~~ s)
  rw [BitVec.not_not] at h2
  generalize ((~~~ s).toNat : Int) = τ at h1 h2
  generalize hs : (s.toNat : Int) = σ at h1 h2
  have HS := hd hs
  clear hs
  go_enter Try.func13, Try.ntmps13
  go_wp2
  refine wp_loop_rounds 1 ?_
  rw [rounds_succ]
  go_wp2
  all_goals go_ret
  all_goals exact ⟨by rw [HS.out]; rfl, Below.refl _ _⟩

theorem ron_any {w : World} {v : Value} {l : List Int} (s : BitVec 32) (h : Bx w v l) :
    Calls Try.prog 13 #[.int .u32 (s.toNat : Int), v] w fun e w' => SumEnd w (Crc.on s l) e w' := by
  rcases h with ⟨a1, a2, a3⟩ | ⟨rfl, x, cap, rfl⟩
  · rcases a3 with ⟨rfl, rfl⟩ | ⟨x1, x2, x3, rfl, x5, x6, x7, x8⟩
    · rw [Crc.on_nil]; exact ron_nil s none 0 w
    · exact ron_some x1 x2 l.length x3 s w l rfl a2 a1 x8
  · rw [Crc.on_nil]; exact ron_nil s _ _ w

theorem rof_any {w : World} {v : Value} {l : List Int} (h : Bx w v l) :
    Calls Try.prog 11 #[v] w fun e w' => SumEnd w (Crc.on 0#32 l) e w' := by
  have H : Hid (Calls Try.prog 13 #[.int .u32 0, v] w fun e w' => SumEnd w (Crc.on 0#32 l) e w') := ron_any 0#32 h
  clear h
  go_enter Try.func11, Try.ntmps11
  go_wp2_with (go_at_call 13; refine H.out.mono ?_; rintro e w1 ⟨rfl, hk⟩; have HK := hd hk; clear hk)
  go_ret
  exact ⟨rfl, HK.out⟩

end Go.Proofs.Ytdhgdgcblgdefaa
