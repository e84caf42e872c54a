/- A block's words, as the document's answer makes them. -/
import Derived.Test.YteefpbeglmnilaaDoorRf
namespace Go.Proofs.YteefpbeglmnilaaDoor
open Go.RowKit
set_option linter.unusedVariables false

theorem mul256 (x : BitVec 32) (y : Int) (h0 : 0 ≤ y) (h1 : y ≤ 255) : IntKind.u32.wrap (IntKind.u32.wrap ((x.toNat : Int) * 256) + y) = (((x <<< 8) ||| Sha.byt y).toNat : Int) := by
  have hy : (Sha.byt y).toNat = y.toNat := by have := byt_toNat y h0 h1; omega
  have e1 : x.toNat <<< 8 % 2 ^ 32 = (x.toNat % 16777216) <<< 8 := by rw [Nat.shiftLeft_eq, Nat.shiftLeft_eq]; omega
  rw [BitVec.toNat_or, BitVec.toNat_shiftLeft, hy, e1, ← Nat.shiftLeft_add_eq_or_of_lt (show y.toNat < 2 ^ 8 by omega), Nat.shiftLeft_eq, IntKind.wrap_u32, IntKind.wrap_u32]
  have := x.isLt
  omega

theorem set_keep {W : World} {g a b i : Nat} {x y v : Value} (na : i ≠ a) (nb : i ≠ b) (h : W.cell? ⟨g, a, none⟩ = some x ∧ W.cell? ⟨g, b, none⟩ = some y) : (W.setCell ⟨g, i, none⟩ v).cell? ⟨g, a, none⟩ = some x ∧ (W.setCell ⟨g, i, none⟩ v).cell? ⟨g, b, none⟩ = some y :=
  ⟨(World.cell?_setCell_other _ _ _ _ (by intro e; cases e; exact na rfl)).trans h.1, (World.cell?_setCell_other _ _ _ _ (by intro e; cases e; exact nb rfl)).trans h.2⟩

/-- The words behind i rounds. -/
def Ref.wd (l : List Int) (i : Nat) : List (BitVec 32) := if i ≤ 16 then Sha.front l (4 * i) else Sha.more (Sha.front l 64) (i - 16)
theorem wd_low (l : List Int) (i : Nat) (h : i ≤ 16) : Ref.wd l i = Sha.front l (4 * i) := by rw [Ref.wd, if_pos h]
theorem wd_high (l : List Int) (i : Nat) (h : 16 ≤ i) : Ref.wd l i = Sha.more (Sha.front l 64) (i - 16) := by
  by_cases h16 : i = 16
  · subst h16; rfl
  · rw [Ref.wd, if_neg (by omega)]
theorem wd_next (l : List Int) (i : Nat) (h : 16 ≤ i) : Ref.wd l (i + 1) = (Ref.wd l i).set i (Sha.nextW (Ref.wd l i) i) := by
  rw [wd_high l i h, wd_high l (i + 1) (by omega), show i + 1 - 16 = (i - 16) + 1 by omega, Sha.more, show 16 + (i - 16) = i by omega]
theorem wd_all (l : List Int) : Ref.wd l 64 = Sha.spread l := rfl

structure SqW (w wr : World) (o : List (BitVec 32)) : Prop where
  bel : Below w.heap.size w wr
  res : Row wr w.heap.size 64 (ws (List.replicate 64 0#32))
  out : Row wr (w.heap.size + 1) 64 (ws o)
  len : o.length = 64

theorem SqW.set {w wr : World} {o : List (BitVec 32)} (h : SqW w wr o) (n i : Nat) (x : BitVec 32) : SqW w ((wr.drewN n).setCell ⟨w.heap.size + 1, i, none⟩ (.int .u32 (x.toNat : Int))) (o.set i x) :=
  ⟨below_setCell (below_drewN h.bel n) _ _ (Nat.le_succ _), (h.res.drewN n).other _ _ (by simp), by rw [← ws_set]; exact (h.out.drewN n).set i _, by rw [List.length_set]; exact h.len⟩
theorem SqW.drewN {w wr : World} {o : List (BitVec 32)} (h : SqW w wr o) (n : Nat) : SqW w (wr.drewN n) o := ⟨below_drewN h.bel n, h.res.drewN n, h.out.drewN n, h.len⟩

set_option maxRecDepth 100000 in
set_option maxHeartbeats 1000000 in
theorem words_ok (b off cap : Nat) (w : World) (l : List Int) (hl : l.length = 64) (ha : Byt l) (hbw : b < w.heap.size) (hcap : 64 ≤ cap)
    (h1 : ∀ i, i < 64 → w.cell? ⟨b, off + i, none⟩ = some (.int .u8 (l.getD i 0))) :
    Calls Tryd.prog 38 #[.slice (some ⟨b, off, none⟩) 64 cap] w fun e w' => e = .returned (.agg (ws (Sha.spread l)).toArray) ∧ Below w.heap.size w w' := by
  have H1 := hd h1
  have HA := hd ha
  have HBW := hd hbw
  clear h1 ha hbw hl
  go_enter Tryd.func38, Tryd.ntmps38
  go_wp2_with fail
  generalize hw0 : World.alloc (World.alloc w _) _ = w0
  have S0 : Hid (SqW w w0 (Ref.wd l 0)) := by
    subst hw0
    refine ⟨((Below.refl _ _).alloc (Nat.le_refl _) _).alloc (by simp) _, ?_, ?_, by rw [wd_low _ _ (by omega), Sha.front_len]⟩
    · exact (Row.new' w 64 _ _ (by rw [ws_zeros]; rfl)).alloc _
    · have h := Row.new (World.alloc w (.cells (ws (List.replicate 64 0#32)).toArray 64)) 64 (ws (Sha.front l 0))
      simp only [World.size_alloc] at h
      exact h
  clear hw0
  go_loopw [4] (fun i wr => ∃ k : Nat, k ≤ 64 ∧ i = .int .i64 k ∧ SqW w wr (Ref.wd l k)) (fun i _ => 64 - (intOf i).toNat)
  case atStart => exact ⟨0, Nat.zero_le _, rfl, S0.out⟩
  case round =>
    clear S0 w0
    obtain ⟨i, hi, rfl, hs⟩ := hrel
    have HS := hd hs
    clear hs
    by_cases hlt : i < 64
    · have hlt' : (i : Int) < 64 := by omega
      have si : IntKind.i64.wrap ((i : Int) + 1) = ((i + 1 : Nat) : Int) := by rw [IntKind.wrap_i64]; omega
      by_cases h16 : i < 16
      · have h16' : (i : Int) < 16 := by omega
        have F0 : Hid (SqW w wr (Sha.front l (4 * i + 0))) := hd (by rw [Nat.add_zero, ← wd_low l i (by omega)]; exact HS.out)
        have FE : Hid (Ref.wd l (i + 1) = Sha.front l (4 * i + 4)) := hd (by rw [wd_low l (i + 1) (by omega)]; rfl)
        have s4 : IntKind.i64.wrap (4 * (i : Int)) = ((4 * i : Nat) : Int) := by rw [IntKind.wrap_i64]; omega
        clear HS
        go_wp2_with fail
        go_loopw [5] (fun k wr => ∃ κ : Nat, κ ≤ 4 ∧ k = .int .i64 (κ : Int) ∧ SqW w wr (Sha.front l (4 * i + κ))) (fun k _ => 4 - (intOf k).toNat)
        case atStart => exact ⟨0, Nat.zero_le _, rfl, F0.out⟩
        case round =>
          clear F0
          obtain ⟨κ, hκ, rfl, hs⟩ := hrel
          have HS := hd hs
          clear hs
          by_cases h4 : κ < 4
          · have h4' : (κ : Int) < 4 := by omega
            have hq : (4 * i + κ) / 4 = i := by omega
            have s5 : IntKind.i64.wrap (((4 * i : Nat) : Int) + (κ : Int)) = ((4 * i + κ : Nat) : Int) := by rw [IntKind.wrap_i64]; omega
            have s6 : IntKind.i64.wrap ((κ : Int) + 1) = ((κ + 1 : Nat) : Int) := by rw [IntKind.wrap_i64]; omega
            have hql : 4 * i + κ < 64 := by omega
            have HE : Hid (Sha.front l (4 * i + (κ + 1)) = (Sha.front l (4 * i + κ)).set ((4 * i + κ) / 4) ((Sha.at_ (Sha.front l (4 * i + κ)) ((4 * i + κ) / 4) <<< 8) ||| Sha.byt (l.getD (4 * i + κ) 0))) := rfl
            rw [hq] at HE
            generalize ((4 * i : Nat) : Int) = τ at s4 s5
            generalize 4 * i + κ = q at *
            have hql' : (q : Int) < 64 := by omega
            have hx := HA.out.get q
            have c1 : wr.cell? ⟨b, off + q, none⟩ = some (.int .u8 (l.getD q 0)) := by
              rw [(kpB HS.out.bel (fun _ => False)).cell (p := ⟨b, off + q, none⟩) HBW.out (fun h => h)]
              exact H1.out q hql
            generalize Sha.front l q = o at *
            have c2 := HS.out.out.word i (by rw [HS.out.len]; exact hlt)
            have f2 := HS.out.out.frozen i
            have e2 := mul256 (Sha.at_ o i) (l.getD q 0) hx.1 hx.2
            generalize (Sha.at_ o i <<< 8 ||| Sha.byt (l.getD q 0)) = y at *
            generalize l.getD q 0 = x at *
            generalize ((Sha.at_ o i).toNat : Int) = ξ at *
            obtain ⟨α, e1⟩ : ∃ α, IntKind.u32.wrap (ξ * 256) = α := ⟨_, rfl⟩
            rw [e1] at e2
            generalize hρ : (y.toNat : Int) = ρ at *
            have HP := hd hρ
            clear hρ
            go_wp2_with fail
            go_region
            go_wp2_with fail
            go_roundw
            case rel => exact ⟨κ + 1, by omega, by go_num, by rw [HE.out, ← HP.out]; exact HS.out.set 1 i y⟩
            case measure => simp [intOf]; omega
          · have hk4 : κ = 4 := by omega
            subst hk4
            go_wp2_with fail
            go_roundw
            case rel => exact ⟨i + 1, by omega, by go_num, by rw [FE.out]; exact HS.out⟩
            case measure => simp [intOf]; omega
      · have hm2 : 16 ≤ i := by omega
        have h16' : ¬ ((i : Int) < 16) := by omega
        have HO := hd (wd_next l i hm2)
        generalize Ref.wd l i = o at *
        have HN : Hid (Sha.nextW o i = Sha.at_ o (i - 16) + Sha.at_ o (i - 7) + (Sha.rr (Sha.at_ o (i - 15)) 7 ^^^ Sha.rr (Sha.at_ o (i - 15)) 18 ^^^ (Sha.at_ o (i - 15) >>> 3)) + (Sha.rr (Sha.at_ o (i - 2)) 17 ^^^ Sha.rr (Sha.at_ o (i - 2)) 19 ^^^ (Sha.at_ o (i - 2) >>> 10))) := rfl
        generalize Sha.nextW o i = nx at HO HN
        have c1 := HS.out.out.word (i - 2) (by rw [HS.out.len]; omega)
        have c2 := HS.out.out.word (i - 15) (by rw [HS.out.len]; omega)
        have c3 := HS.out.out.word (i - 16) (by rw [HS.out.len]; omega)
        have c4 := HS.out.out.word (i - 7) (by rw [HS.out.len]; omega)
        have c5 := HS.out.out.word i (by rw [HS.out.len]; omega)
        have f5 := HS.out.out.frozen i
        generalize Sha.at_ o i = xm at c5
        generalize Sha.at_ o (i - 2) = x2 at *
        generalize Sha.at_ o (i - 15) = x15 at *
        generalize Sha.at_ o (i - 16) = x16 at *
        generalize Sha.at_ o (i - 7) = x7 at *
        have i1 : IntKind.i64.wrap ((i : Int) - 2) = ((i - 2 : Nat) : Int) := by rw [IntKind.wrap_i64]; omega
        have i2 : IntKind.i64.wrap ((i : Int) - 15) = ((i - 15 : Nat) : Int) := by rw [IntKind.wrap_i64]; omega
        have i3 : IntKind.i64.wrap ((i : Int) - 16) = ((i - 16 : Nat) : Int) := by rw [IntKind.wrap_i64]; omega
        have i4 : IntKind.i64.wrap ((i : Int) - 7) = ((i - 7 : Nat) : Int) := by rw [IntKind.wrap_i64]; omega
        have j1 : ((i - 2 : Nat) : Int) < 64 := by omega
        have j2 : ((i - 15 : Nat) : Int) < 64 := by omega
        have j3 : ((i - 16 : Nat) : Int) < 64 := by omega
        have j4 : ((i - 7 : Nat) : Int) < 64 := by omega
        have n3 : i - 16 ≠ i := by omega
        have n4 : i - 7 ≠ i := by omega
        have n3' : i ≠ i - 16 := by omega
        have n4' : i ≠ i - 7 := by omega
        generalize i - 2 = m2 at *
        generalize i - 15 = m15 at *
        generalize i - 16 = m16 at *
        generalize i - 7 = m7 at *
        have e1 : _ = _ := bshr x15 3
        have e2 : _ = _ := bshr x2 10
        have a1 := bxor (Sha.rr x15 7) (Sha.rr x15 18)
        have a2 := bxor (Sha.rr x15 7 ^^^ Sha.rr x15 18) (x15 >>> 3)
        have a3 := bxor (Sha.rr x2 17) (Sha.rr x2 19)
        have a4 := bxor (Sha.rr x2 17 ^^^ Sha.rr x2 19) (x2 >>> 10)
        have T1 : ∀ w, Hid (Calls Tryd.prog 55 #[.int .u32 (x15.toNat : Int), .int .i64 7] w fun o w' => o = .returned (.int .u32 ((Sha.rr x15 7).toNat : Int)) ∧ ∃ m, w' = w.drewN m) := fun w => turn_ok x15 7 (by decide) (by decide) w
        have T2 : ∀ w, Hid (Calls Tryd.prog 55 #[.int .u32 (x15.toNat : Int), .int .i64 18] w fun o w' => o = .returned (.int .u32 ((Sha.rr x15 18).toNat : Int)) ∧ ∃ m, w' = w.drewN m) := fun w => turn_ok x15 18 (by decide) (by decide) w
        have T3 : ∀ w, Hid (Calls Tryd.prog 55 #[.int .u32 (x2.toNat : Int), .int .i64 17] w fun o w' => o = .returned (.int .u32 ((Sha.rr x2 17).toNat : Int)) ∧ ∃ m, w' = w.drewN m) := fun w => turn_ok x2 17 (by decide) (by decide) w
        have T4 : ∀ w, Hid (Calls Tryd.prog 55 #[.int .u32 (x2.toNat : Int), .int .i64 19] w fun o w' => o = .returned (.int .u32 ((Sha.rr x2 19).toNat : Int)) ∧ ∃ m, w' = w.drewN m) := fun w => turn_ok x2 19 (by decide) (by decide) w
        generalize Sha.rr x15 7 = r1 at *
        generalize Sha.rr x15 18 = r2 at *
        generalize Sha.rr x2 17 = r3 at *
        generalize Sha.rr x2 19 = r4 at *
        generalize r1 ^^^ r2 ^^^ x15 >>> 3 = s0 at *
        generalize r3 ^^^ r4 ^^^ x2 >>> 10 = s1 at *
        generalize r1 ^^^ r2 = q1 at *
        generalize r3 ^^^ r4 = q2 at *
        generalize x15 >>> 3 = p1 at *
        generalize x2 >>> 10 = p2 at *
        have b1 := badd x16 x7
        have b2 := badd (x16 + x7) s0
        have b3 := badd (x16 + x7 + s0) s1
        rw [← HN.out] at b3
        generalize x16 + x7 + s0 = y2 at *
        generalize x16 + x7 = y1 at *
        have e1' : (x15.toNat : Int) / 8 = (p1.toNat : Int) := e1
        have e2' : (x2.toNat : Int) / 1024 = (p2.toNat : Int) := e2
        clear e1 e2 HN
        generalize (xm.toNat : Int) = ξm at c5
        generalize (x15.toNat : Int) = ξ15 at *
        generalize (x2.toNat : Int) = ξ2 at *
        generalize (x16.toNat : Int) = ξ16 at *
        generalize (x7.toNat : Int) = ξ7 at *
        generalize (p1.toNat : Int) = π1 at *
        generalize (p2.toNat : Int) = π2 at *
        generalize (q1.toNat : Int) = χ1 at *
        generalize (q2.toNat : Int) = χ2 at *
        generalize (r1.toNat : Int) = ρ1 at *
        generalize (r2.toNat : Int) = ρ2 at *
        generalize (r3.toNat : Int) = ρ3 at *
        generalize (r4.toNat : Int) = ρ4 at *
        generalize (s0.toNat : Int) = σ0 at *
        generalize (s1.toNat : Int) = σ1 at *
        generalize (y1.toNat : Int) = υ1 at *
        generalize (y2.toNat : Int) = υ2 at *
        generalize hν : (nx.toNat : Int) = ν at b3
        have HV := hd hν
        clear hν
        go_wp2_with fail
        go_quiet (fail)
        go_wp2_with fail
        go_region_held3 (fun W => W.cell? ⟨w.heap.size + 1, m16, none⟩ = some (.int .u32 ξ16) ∧ W.cell? ⟨w.heap.size + 1, m7, none⟩ = some (.int .u32 ξ7)) (first | go_keep | (refine set_keep n3' n4' ?_; go_keep)) (first
          | (go_at_call 55; with_reducible refine (T1 _).out.mono ?_; clear T1; rintro e w' ⟨rfl, d1, rfl⟩)
          | (go_at_call 55; with_reducible refine (T2 _).out.mono ?_; clear T2; rintro e w' ⟨rfl, d2, rfl⟩)
          | (go_at_call 55; with_reducible refine (T3 _).out.mono ?_; clear T3; rintro e w' ⟨rfl, d3, rfl⟩)
          | (go_at_call 55; with_reducible refine (T4 _).out.mono ?_; clear T4; rintro e w' ⟨rfl, d4, rfl⟩))
        go_wp2_with fail
        go_roundw
        case rel => exact ⟨i + 1, by omega, by go_num, by rw [HO.out, ← HV.out]; exact HS.out.set _ i nx⟩
        case measure => simp [intOf]; omega
    · have hk64 : i = 64 := by omega
      subst hk64
      rw [show ((64 : Nat) : Int) = 64 from rfl]
      have HF : Hid (Sha.spread l = Ref.wd l 64) := (wd_all l).symm
      have LZ := hd HS.out.len
      generalize Ref.wd l 64 = z at *
      go_wp2_with (first
        | refine wpList_load_row rfl 64 _ rfl (w.heap.size + 1) rfl 64 (ws z).toArray (0, 0) _ HS.out.out und44 rfl (by rw [List.size_toArray, ws_len, LZ.out]; exact info44) ?_
        | refine wpList_store_row rfl 64 _ _ rfl w.heap.size (ws z).toArray rfl rfl 64 _ HS.out.res (by rw [List.size_toArray, ws_len, LZ.out]; exact info44) (by rw [List.size_toArray, List.size_toArray, ws_len, ws_len, LZ.out]; rfl) (ws_one z) ?_)
      refine bodyPost_ret (v := .agg (ws z).toArray) ?_ rfl ⟨by rw [HF.out], ?_⟩
      · exact results_cell_row (P := Tryd.prog) (fn := Tryd.f38) (p := 2) (ty := 64) (by kernel_rfl) _ _ w.heap.size 64 (ws z).toArray (0, 0) _ rfl (HS.out.res.put (us := ws z)) und44 rfl (by rw [List.size_toArray, ws_len, LZ.out]; exact info44)
      · exact below_setRow HS.out.bel _ _ (Nat.le_refl _)
end Go.Proofs.YteefpbeglmnilaaDoor
