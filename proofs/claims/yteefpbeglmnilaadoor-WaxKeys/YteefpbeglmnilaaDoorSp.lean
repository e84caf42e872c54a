/- A block's 64 words. -/
import Derived.Test.YteefpbeglmnilaaDoorArr
import Derived.Deep.QuietTactic
import Derived.BigQuiet
namespace Go.Proofs.YteefpbeglmnilaaDoor
open Go.RowKit
set_option linter.unusedVariables false

theorem front_succ (l : List Int) (k : Nat) (h : 0 ≤ l.getD k 0 ∧ l.getD k 0 ≤ 255) :
    bits .or .u32 (((Sha.at_ (Sha.front l k) (k / 4)) <<< 8).toNat : Int) (l.getD k 0) = (((Sha.at_ (Sha.front l k) (k / 4) <<< 8) ||| Sha.byt (l.getD k 0)).toNat : Int) := by
  have e := bor (Sha.at_ (Sha.front l k) (k / 4) <<< 8) (Sha.byt (l.getD k 0))
  rw [byt_toNat _ h.1 h.2] at e
  exact e

/-- The rows of spread: the one that is handed back, the one that is made. -/
structure SpW (w wr : World) (o : List (BitVec 32)) : Prop where
  bel : Below w.heap.size w wr
  res : Row wr w.heap.size 65 (ws (List.replicate 64 0#32))
  out : Row wr (w.heap.size + 1) 65 (ws o)
  len : o.length = 64

theorem SpW.set {w wr : World} {o : List (BitVec 32)} (h : SpW w wr o) (n i : Nat) (x : BitVec 32) : SpW w ((wr.drewN n).setCell ⟨w.heap.size + 1, i, none⟩ (.int .u32 (x.toNat : Int))) (o.set i x) :=
  ⟨below_setCell (below_drewN h.bel n) _ _ (Nat.le_succ _), (h.res.drewN n).other _ _ (by simp), by rw [← ws_set]; exact (h.out.drewN n).set i _, by rw [List.length_set]; exact h.len⟩

theorem info45 : (Tryd.prog.info? 65).map (·.size) = some 64 := by kernel_rfl
theorem und45 : Tryd.prog.underlying 65 = some (.array 64 61) := by kernel_rfl

set_option maxRecDepth 100000 in
set_option maxHeartbeats 600000 in
theorem spread_ok (b off : Nat) (w : World) (l : List Int) (hl : l.length = 64) (ha : Byt l) (hbw : b < w.heap.size)
    (h1 : ∀ i, i < 64 → w.cell? ⟨b, off + i, none⟩ = some (.int .u8 (l.getD i 0))) :
    Calls Tryd.prog 49 #[.pointer (some ⟨b, off, none⟩)] w fun e w' => e = .returned (.agg (ws (Sha.spread l)).toArray) ∧ Below w.heap.size w w' := by
  have H1 := hd h1
  have HA := hd ha
  have HBW := hd hbw
  clear h1 ha hbw hl
  go_enter Tryd.func49, Tryd.ntmps49
  go_wp2_with fail
  generalize hw0 : World.alloc (World.alloc w _) _ = w0
  have S0 : Hid (SpW w w0 (Sha.front l 0)) := by
    subst hw0
    refine ⟨((Below.refl _ _).alloc (Nat.le_refl _) _).alloc (by simp) _, ?_, ?_, by simp [Sha.front]⟩
    · exact (Row.new' w 65 _ _ (by rw [ws_zeros]; rfl)).alloc _
    · have h := Row.new (World.alloc w (.cells (ws (List.replicate 64 0#32)).toArray 65)) 65 (ws (Sha.front l 0))
      simp only [World.size_alloc] at h
      exact h
  clear hw0
  go_loopw [12] (fun i wr => ∃ k : Nat, k ≤ 64 ∧ i = .int .i64 k ∧ SpW w wr (Sha.front l k)) (fun i _ => 64 - (intOf i).toNat)
  case atStart => exact ⟨0, Nat.zero_le _, rfl, S0.out⟩
  case round =>
    clear S0 w0
    obtain ⟨k, hk, rfl, hs⟩ := hrel
    have HS := hd hs
    clear hs
    by_cases hlt : k < 64
    · have hlt' : (k : Int) < 64 := by omega
      have hx := HA.out.get k
      have c1 : wr.cell? ⟨b, off + k, none⟩ = some (.int .u8 (l.getD k 0)) := by
        rw [(kpB HS.out.bel (fun _ => False)).cell (p := ⟨b, off + k, none⟩) HBW.out (fun h => h)]
        exact H1.out k hlt
      have hq : k / 4 < 64 := by omega
      have c2 := HS.out.out.word (k / 4) (by rw [HS.out.len]; exact hq)
      have f2 := HS.out.out.frozen (k / 4)
      have e1 := bshl (Sha.at_ (Sha.front l k) (k / 4)) 8
      have e2 := front_succ l k hx
      have e3 : (k : Int).tdiv 4 = ((k / 4 : Nat) : Int) := by rw [Int.tdiv_eq_ediv_of_nonneg (by omega)]; omega
      have hq' : ((k / 4 : Nat) : Int) < 64 := by omega
      have HE : Hid (Sha.front l (k + 1) = (Sha.front l k).set (k / 4) ((Sha.at_ (Sha.front l k) (k / 4) <<< 8) ||| Sha.byt (l.getD k 0))) := rfl
      generalize ((Sha.at_ (Sha.front l k) (k / 4) <<< 8) ||| Sha.byt (l.getD k 0)) = y at HE e2
      generalize ((Sha.at_ (Sha.front l k) (k / 4) <<< 8).toNat : Int) = α at e1 e2
      generalize ((Sha.at_ (Sha.front l k) (k / 4)).toNat : Int) = ξ at e1 c2
      generalize l.getD k 0 = x at *
      generalize hqq : k / 4 = q at *
      have HQ := hd hqq
      clear hqq
      generalize hρ : (y.toNat : Int) = ρ at *
      have HP := hd hρ
      clear hρ
      have e1' : IntKind.u32.wrap (ξ * 256) = α := e1
      clear e1
      go_wp2_with fail
      go_quiet (fail)
      go_wp2_with fail
      go_roundw
      case rel => exact ⟨k + 1, by omega, by go_num, by rw [HE.out, ← HP.out]; exact HS.out.set nq q y⟩
      case measure => simp [intOf]; omega
    · have hk64 : k = 64 := by omega
      subst hk64
      rw [show ((64 : Nat) : Int) = 64 from rfl]
      have HF : Hid (Sha.spread l = Sha.more (Sha.front l 64) 48) := rfl
      generalize Sha.front l 64 = o at HS HF
      go_wp2_with fail
      go_loopw [6] (fun i wr => ∃ k : Nat, k ≤ 48 ∧ i = .int .i64 ((16 + k : Nat) : Int) ∧ SpW w wr (Sha.more o k)) (fun i _ => 64 - (intOf i).toNat)
      case atStart => exact ⟨0, Nat.zero_le _, rfl, HS.out⟩
      case round =>
        clear HS
        obtain ⟨k, hk, rfl, hs⟩ := hrel
        have HS := hd hs
        clear hs
        have HO : Hid (Sha.more o (k + 1) = (Sha.more o k).set (16 + k) (Sha.nextW (Sha.more o k) (16 + k))) := rfl
        have HN : Hid (Sha.nextW (Sha.more o k) (16 + k) = Sha.at_ (Sha.more o k) (16 + k - 16) + Sha.at_ (Sha.more o k) (16 + k - 7) + (Sha.rr (Sha.at_ (Sha.more o k) (16 + k - 15)) 7 ^^^ Sha.rr (Sha.at_ (Sha.more o k) (16 + k - 15)) 18 ^^^ (Sha.at_ (Sha.more o k) (16 + k - 15) >>> 3)) + (Sha.rr (Sha.at_ (Sha.more o k) (16 + k - 2)) 17 ^^^ Sha.rr (Sha.at_ (Sha.more o k) (16 + k - 2)) 19 ^^^ (Sha.at_ (Sha.more o k) (16 + k - 2) >>> 10))) := rfl
        by_cases hlt : k < 48
        · generalize Sha.nextW (Sha.more o k) (16 + k) = nx at HO HN
          have HK := hd (rfl : 16 + k = 16 + k)
          generalize hm : 16 + k = m at HO HN HK
          have HM := hd hm
          have hm1 : m < 64 := by omega
          have hm2 : 16 ≤ m := by omega
          have c1 := HS.out.out.word (m - 2) (by rw [HS.out.len]; omega)
          have c2 := HS.out.out.word (m - 15) (by rw [HS.out.len]; omega)
          have c3 := HS.out.out.word (m - 16) (by rw [HS.out.len]; omega)
          have c4 := HS.out.out.word (m - 7) (by rw [HS.out.len]; omega)
          have c5 := HS.out.out.word m (by rw [HS.out.len]; omega)
          have f5 := HS.out.out.frozen m
          generalize Sha.at_ (Sha.more o k) m = xm at c5
          clear hm
          generalize Sha.at_ (Sha.more o k) (m - 2) = x2 at *
          generalize Sha.at_ (Sha.more o k) (m - 15) = x15 at *
          generalize Sha.at_ (Sha.more o k) (m - 16) = x16 at *
          generalize Sha.at_ (Sha.more o k) (m - 7) = x7 at *
          have i1 : IntKind.i64.wrap ((m : Int) - 2) = ((m - 2 : Nat) : Int) := by rw [IntKind.wrap_i64]; omega
          have i2 : IntKind.i64.wrap ((m : Int) - 15) = ((m - 15 : Nat) : Int) := by rw [IntKind.wrap_i64]; omega
          have i3 : IntKind.i64.wrap ((m : Int) - 16) = ((m - 16 : Nat) : Int) := by rw [IntKind.wrap_i64]; omega
          have i4 : IntKind.i64.wrap ((m : Int) - 7) = ((m - 7 : Nat) : Int) := by rw [IntKind.wrap_i64]; omega
          have j1 : ((m - 2 : Nat) : Int) < 64 := by omega
          have j2 : ((m - 15 : Nat) : Int) < 64 := by omega
          have j3 : ((m - 16 : Nat) : Int) < 64 := by omega
          have j4 : ((m - 7 : Nat) : Int) < 64 := by omega
          have j5 : (m : Int) < 64 := by omega
          generalize m - 2 = m2 at *
          generalize m - 15 = m15 at *
          generalize m - 16 = m16 at *
          generalize m - 7 = m7 at *
          have e1 : _ = _ := bshr x15 3
          have e2 : _ = _ := bshr x2 10
          have a1 := bxor (Sha.rr x15 7) (Sha.rr x15 18)
          have a2 := bxor (Sha.rr x15 7 ^^^ Sha.rr x15 18) (x15 >>> 3)
          have a3 := bxor (Sha.rr x2 17) (Sha.rr x2 19)
          have a4 := bxor (Sha.rr x2 17 ^^^ Sha.rr x2 19) (x2 >>> 10)
          have T1 := fun w => hd (turned_ok x15 7 (by decide) (by decide) w)
          have T2 := fun w => hd (turned_ok x15 18 (by decide) (by decide) w)
          have T3 := fun w => hd (turned_ok x2 17 (by decide) (by decide) w)
          have T4 := fun w => hd (turned_ok x2 19 (by decide) (by decide) w)
          generalize Sha.rr x15 7 = r1 at *
          generalize Sha.rr x15 18 = r2 at *
          generalize Sha.rr x2 17 = r3 at *
          generalize Sha.rr x2 19 = r4 at *
          generalize r1 ^^^ r2 ^^^ x15 >>> 3 = s0 at *
          generalize r3 ^^^ r4 ^^^ x2 >>> 10 = s1 at *
          generalize r1 ^^^ r2 = q1 at *
          generalize r3 ^^^ r4 = q2 at *
          generalize x15 >>> 3 = p1 at *
          generalize x2 >>> 10 = p2 at *
          have b1 := badd x16 x7
          have b2 := badd (x16 + x7) s0
          have b3 := badd (x16 + x7 + s0) s1
          rw [← HN.out] at b3
          generalize x16 + x7 + s0 = y2 at *
          generalize x16 + x7 = y1 at *
          have e1' : (x15.toNat : Int) / 8 = (p1.toNat : Int) := e1
          have e2' : (x2.toNat : Int) / 1024 = (p2.toNat : Int) := e2
          clear e1 e2 HN HK
          have HX : Hid ((nx.toNat : Int) = (nx.toNat : Int)) := rfl
          generalize (xm.toNat : Int) = ξm at c5
          generalize (x15.toNat : Int) = ξ15 at *
          generalize (x2.toNat : Int) = ξ2 at *
          generalize (x16.toNat : Int) = ξ16 at *
          generalize (x7.toNat : Int) = ξ7 at *
          generalize (p1.toNat : Int) = π1 at *
          generalize (p2.toNat : Int) = π2 at *
          generalize (q1.toNat : Int) = χ1 at *
          generalize (q2.toNat : Int) = χ2 at *
          generalize (r1.toNat : Int) = ρ1 at *
          generalize (r2.toNat : Int) = ρ2 at *
          generalize (r3.toNat : Int) = ρ3 at *
          generalize (r4.toNat : Int) = ρ4 at *
          generalize (s0.toNat : Int) = σ0 at *
          generalize (s1.toNat : Int) = σ1 at *
          generalize (y1.toNat : Int) = υ1 at *
          generalize (y2.toNat : Int) = υ2 at *
          generalize hν : (nx.toNat : Int) = ν at b3
          have HV := hd hν
          clear hν HX
          go_wp2_with fail
          go_quiet (fail)
          go_wp2_with fail
          refine (T1 _).out.mono ?_
          rintro e w1 ⟨rfl, rfl⟩
          go_wp2_with fail
          refine (T2 _).out.mono ?_
          rintro e w1 ⟨rfl, rfl⟩
          go_wp2_with fail
          refine (T3 _).out.mono ?_
          rintro e w1 ⟨rfl, rfl⟩
          go_wp2_with fail
          refine (T4 _).out.mono ?_
          rintro e w1 ⟨rfl, rfl⟩
          clear T1 T2 T3 T4
          go_wp2_with fail
          go_region
          go_wp2_with fail
          go_roundw
          case rel => exact ⟨k + 1, by omega, by have := HM.out; go_num, by rw [HO.out, ← HV.out]; exact HS.out.set _ m nx⟩
          case measure => simp [intOf]; omega
        · have hk48 : k = 48 := by omega
          subst hk48
          have LZ := hd HS.out.len
          generalize Sha.more o 48 = z at HS HF LZ
          go_wp2_with (first
            | refine wpList_load_row rfl 65 _ rfl (w.heap.size + 1) rfl 65 (ws z).toArray (0, 0) _ HS.out.out und45 rfl (by rw [List.size_toArray, ws_len, LZ.out]; exact info45) ?_
            | refine wpList_store_row rfl 65 _ _ rfl w.heap.size (ws z).toArray rfl rfl 65 _ HS.out.res (by rw [List.size_toArray, ws_len, LZ.out]; exact info45) (by rw [List.size_toArray, List.size_toArray, ws_len, ws_len, LZ.out]; rfl) (ws_one z) ?_)
          refine bodyPost_ret (v := .agg (ws z).toArray) ?_ rfl ⟨by rw [HF.out], ?_⟩
          · exact results_cell_row (P := Tryd.prog) (fn := Tryd.f49) (p := 2) (ty := 65) (by kernel_rfl) _ _ w.heap.size 65 (ws z).toArray (0, 0) _ rfl (HS.out.res.put (us := ws z)) und45 rfl (by rw [List.size_toArray, ws_len, LZ.out]; exact info45)
          · exact below_setRow HS.out.bel _ _ (Nat.le_refl _)

end Go.Proofs.YteefpbeglmnilaaDoor
