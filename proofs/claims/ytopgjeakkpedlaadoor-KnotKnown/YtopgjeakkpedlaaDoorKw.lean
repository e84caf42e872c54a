/- KnotKnown: walk. -/
import Derived.Test.YtopgjeakkpedlaaDoorKz
import Derived.Test.YtopgjeakkpedlaaDoorKo
import Derived.Test.YtopgjeakkpedlaaDoorLa
namespace Go.Proofs.YtopgjeakkpedlaaDoor.knotKnown
open Go.RowKit
set_option linter.unusedVariables false

/-- The message of two blocks. -/
def two : List Int := [97, 98, 99, 100, 98, 99, 100, 101, 99, 100, 101, 102, 100, 101, 102, 103, 101, 102, 103, 104, 102, 103, 104, 105, 103, 104, 105, 106, 104, 105, 106, 107, 105, 106, 107, 108, 106, 107, 108, 109, 107, 108, 109, 110, 108, 109, 110, 111, 109, 110, 111, 112, 110, 111, 112, 113]
theorem two_len : two.length = 56 := rfl
theorem two_byt : Byt two := by
  have h : two.all (fun x => decide (0 ≤ x ∧ x ≤ 255)) = true := by decide
  intro x hx
  simpa using List.all_eq_true.1 h x hx
theorem two_dig : Sha.dig two = [36, 141, 106, 97, 210, 6, 56, 184, 229, 192, 38, 147, 12, 62, 96, 57, 163, 60, 228, 89, 100, 255, 33, 103, 246, 236, 237, 212, 25, 219, 6, 193] := by decide +kernel
theorem two_text : hexT (Sha.dig two) = [50, 52, 56, 100, 54, 97, 54, 49, 100, 50, 48, 54, 51, 56, 98, 56, 101, 53, 99, 48, 50, 54, 57, 51, 48, 99, 51, 101, 54, 48, 51, 57, 97, 51, 51, 99, 101, 52, 53, 57, 54, 52, 102, 102, 50, 49, 54, 55, 102, 54, 101, 99, 101, 100, 100, 52, 49, 57, 100, 98, 48, 54, 99, 49] := by
  rw [two_dig]; decide +kernel
theorem mil_text : hexT (Sha.dig (List.replicate 1000000 97)) = [99, 100, 99, 55, 54, 101, 53, 99, 57, 57, 49, 52, 102, 98, 57, 50, 56, 49, 97, 49, 99, 55, 101, 50, 56, 52, 100, 55, 51, 101, 54, 55, 102, 49, 56, 48, 57, 97, 52, 56, 97, 52, 57, 55, 50, 48, 48, 101, 48, 52, 54, 100, 51, 57, 99, 99, 99, 55, 49, 49, 50, 99, 100, 48] := by
  rw [a_dig]; decide +kernel

/-- A knot of the call's own. -/
structure KS (W : World) (kx : Nat) (l : List Int) (wr : World) : Prop where
  bel : Below W.heap.size W wr
  nx : W.heap.size ≤ kx
  rx : Row wr kx 49 (kc l)
  bx : Byt l
theorem KS.step {W wr w' : World} {kx : Nat} {l : List Int} (h : KS W kx l wr) (k : Below wr.heap.size wr w') : KS W kx l w' :=
  ⟨below_below h.bel k, h.nx, h.rx.keep k h.rx.lt, h.bx⟩
theorem sl_ap {w : World} {b g n cap : Nat} {m : List Int} (h : Sl w (.slice (some ⟨g, 0, none⟩) n cap) m) (hne : g ≠ b) : Ap b w (.slice (some ⟨g, 0, none⟩) n cap) m := by
  rcases h with h | ⟨g', off, cap', hv, h1, h2, h3, h4, h5⟩
  · exact Or.inl h
  · cases hv
    exact Or.inr ⟨g, 0, cap, rfl, h1, h2, h3, hne, h4, h5⟩
theorem KS.add {W wr : World} {kx : Nat} {l m : List Int} {v : Value} (h : KS W kx l wr) (hv : Ap kx wr v m) (hm : Byt m) (hl : l.length ≤ 140737488355328) :
    Calls Tryd.prog 9 #[.pointer (some ⟨kx, 0, none⟩), v] wr fun e w' => e = .returned (.tuple #[]) ∧ KS W kx (l ++ m) w' := by
  refine (add_ok h.rx hv hl h.bx hm).mono ?_
  rintro e w' ⟨rfl, hr, hk⟩
  exact ⟨rfl, below_kp h.bel hk h.nx h.bel.size, h.nx, hr, h.bx.append hm⟩
theorem byt_rep (n : Nat) (x : Int) (h0 : 0 ≤ x) (h1 : x ≤ 255) : Byt (List.replicate n x) := fun y hy => by
  rw [List.eq_of_mem_replicate hy]; exact ⟨h0, h1⟩

theorem z49_0 : Tryd.zeroCells49[0]? = some (.bool false) := by kernel_rfl
theorem noKnot_zero (w : World) : NoKnot (w.alloc (.cells Tryd.zeroCells49 49)) (.pointer (some ⟨w.heap.size, 0, none⟩)) :=
  Or.inr ⟨w.heap.size, rfl, (cell_of_row _ w.heap.size 0 _ 49 _ (heap_alloc_new w _)).trans z49_0⟩

set_option maxRecDepth 100000 in
set_option maxHeartbeats 1600000 in
theorem walk (W : World) (G : Glob W) :
    Calls Tryd.prog 6 #[] W fun e W' => e = .returned (.bool true) ∧ Below W.heap.size W W' := by
  have HG := hd G
  clear G
  have T2 := hd two_text
  have TM := hd mil_text
  go_enter Tryd.func6, Tryd.ntmps6
  have kcv := fun (w : World) (C : Array Value) (n c : Nat) => Lib.run_convert_bytes_const (P := Tryd.prog) w 25 5 C n c und25 Tryd.underlying5
  go_wp2_with fail
  refine (of_ok (l := two) (sl_const W two (by decide) _ _ (by decide)) (by decide) two_byt).mono ?_
  rintro e w1 ⟨rfl, hk⟩
  have B1 := hd (below_below ((Below.refl _ _).alloc (Nat.le_refl _) _) hk)
  clear hk
  go_wp2_with fail
  refine (hex_ok (Sha.dig two) (dig_len _) (byt_dig _) w1 (HG.out.keep B1.out)).mono ?_
  rintro e w2 ⟨rfl, hk⟩
  have B2 := hd (below_below B1.out hk)
  clear hk B1
  rw [T2.out]
  go_wp2_with fail
  refine (new_ok w2).mono ?_
  rintro e w3 ⟨kx, rfl, hkx, hrx, hk⟩
  have K0 : Hid (KS W kx (List.replicate (1000 * 0) 97) w3) := ⟨below_below B2.out hk, Nat.le_trans B2.out.size hkx, hrx, Byt.nil⟩
  clear hk hrx hkx B2
  go_wp2_with fail
  go_loopw [3] (fun i wr => ∃ k : Nat, k ≤ 1000 ∧ i = .int .i64 (k : Int) ∧ KS W kx (List.replicate (1000 * k) 97) wr) (fun i _ => 1000 - (intOf i).toNat)
  case atStart => exact ⟨0, Nat.zero_le _, rfl, K0.out⟩
  case round =>
    clear K0 w3 w2
    obtain ⟨k, hk, rfl, hs⟩ := hrel
    have HS := hd hs
    clear hs
    by_cases hlt : k < 1000
    · have hlt' : (k : Int) < 1000 := by omega
      have s1 : IntKind.i64.wrap ((k : Int) + 1) = ((k + 1 : Nat) : Int) := by rw [IntKind.wrap_i64]; omega
      have HL : Hid (List.replicate (1000 * (k + 1)) (97 : Int) = List.replicate (1000 * k) 97 ++ List.replicate 1000 97) := hd (by rw [List.replicate_append_replicate]; rfl)
      have RA : Hid (∀ w, Calls Tryd.prog 18 #[.string ⟨#[97]⟩, .int .i64 1000] w fun e w' => e = .returned (.string ⟨(Lib.repeatL [97] 1000).toArray⟩) ∧ Below w.heap.size w w') := hd (fun w => repeat_any ⟨#[97]⟩ 1000 w (by decide) (by decide))
      have CV := hd (rep_conv 97 1000 (by decide))
      generalize hl' : List.replicate (1000 * (k + 1)) (97 : Int) = l' at *
      have HL2 := hd hl'
      clear hl'
      have LB : Hid ((List.replicate (1000 * k) (97 : Int)).length ≤ 140737488355328) := hd (by rw [List.length_replicate]; omega)
      generalize List.replicate (1000 * k) (97 : Int) = l at *
      generalize Lib.repeatL [97] 1000 = tx at *
      go_wp2_with fail
      refine (RA.out _).mono ?_
      rintro e w4 ⟨rfl, hb⟩
      have HS4 := hd (HS.out.step hb)
      clear hb HS RA
      obtain ⟨cap, w5, hr, hsl, hb⟩ := CV.out w4
      have SL := hd hsl
      have HS5 := hd (HS4.out.step hb)
      have NE : Hid (w4.heap.size ≠ kx) := hd (fun e => by have := HS4.out.rx.lt; omega)
      clear hsl hb CV HS4
      go_wp2_with fail
      clear hr
      refine (HS5.out.add (sl_ap SL.out NE.out) (byt_rep _ _ (by decide) (by decide)) LB.out).mono ?_
      rintro e w6 ⟨rfl, h6⟩
      rw [show ((97 : UInt8).toNat : Int) = 97 from rfl, ← HL.out] at h6
      have HS6 := hd h6
      clear h6 HS5 SL
      go_wp2_with fail
      go_roundw
      case rel => exact ⟨k + 1, by omega, by go_num, by rw [HL2.out]; exact HS6.out⟩
      case measure => simp [intOf]; omega
    · have hk1000 : k = 1000 := by omega
      subst hk1000
      rw [show ((1000 : Nat) : Int) = 1000 from rfl]
      rw [show 1000 * 1000 = 1000000 from rfl] at HS
      have LM : Hid ((List.replicate 1000000 (97 : Int)).length = 1000000) := hd List.length_replicate
      generalize List.replicate 1000000 (97 : Int) = lm at *
      clear hlt hk
      go_wp2_with fail
      refine (tie_ok HS.out.rx (by rw [LM.out]; decide) HS.out.bx).mono ?_
      rintro e w4 ⟨rfl, hb⟩
      have HS4 := hd (HS.out.step hb)
      clear hb HS
      go_wp2_with fail
      refine (hex_ok (Sha.dig lm) (dig_len _) (byt_dig _) w4 (HG.out.keep HS4.out.bel)).mono ?_
      rintro e w5 ⟨rfl, hb⟩
      have HS5 := hd (HS4.out.step hb)
      clear hb HS4
      rw [TM.out]
      generalize Sha.dig lm = dm at *
      go_wp2_with fail
      have LEN := hd (len_ok kx w5 _ _ _ _ rfl (Sha.pad_len _ (by rw [Sha.rest_len]; omega)) HS5.out.rx)
      rw [LM.out] at LEN
      refine LEN.out.mono ?_
      rintro e w6 ⟨rfl, rfl⟩
      clear LEN
      have B6 := hd HS5.out.bel
      clear HS5 TM T2
      rw [show ((1000000 : Nat) : Int) = 1000000 from rfl]
      go_wp2_with fail
      refine (new_ok w6).mono ?_
      rintro e w7 ⟨ky, rfl, hkx, hrx, hk⟩
      have K0 : Hid (KS W ky (List.replicate 0 98) w7) := ⟨below_below B6.out hk, Nat.le_trans B6.out.size hkx, hrx, Byt.nil⟩
      clear hk hrx hkx B6
      go_wp2_with fail
      go_loopw [6] (fun i wr => ∃ k : Nat, k ≤ 200 ∧ i = .int .i64 (k : Int) ∧ KS W ky (List.replicate k 98) wr) (fun i _ => 200 - (intOf i).toNat)
      case atStart => exact ⟨0, Nat.zero_le _, rfl, K0.out⟩
      case round =>
        clear K0
        obtain ⟨k, hk, rfl, hs⟩ := hrel
        have HS := hd hs
        clear hs
        by_cases hlt : k < 200
        · have hlt' : (k : Int) < 200 := by omega
          have s1 : IntKind.i64.wrap ((k : Int) + 1) = ((k + 1 : Nat) : Int) := by rw [IntKind.wrap_i64]; omega
          have HL : Hid (List.replicate (k + 1) (98 : Int) = List.replicate k 98 ++ [98]) := hd List.replicate_succ'
          have RA : Hid (∀ w, Calls Tryd.prog 18 #[.string ⟨#[98]⟩, .int .i64 (k : Int)] w fun e w' => e = .returned (.string ⟨(Lib.repeatL [98] k).toArray⟩) ∧ Below w.heap.size w w') := hd (fun w => repeat_any ⟨#[98]⟩ k w (by omega) (by show 1 * k ≤ _; omega))
          have CV := hd (rep_conv 98 k (by omega))
          rw [show ((98 : UInt8).toNat : Int) = 98 from rfl] at CV
          have LB : Hid ((List.replicate k (98 : Int)).length ≤ 300) := hd (by rw [List.length_replicate]; omega)
          generalize List.replicate k (98 : Int) = l at *
          generalize Lib.repeatL [98] k = tx at *
          have e28 := fun w => eq28 (Sha.dig l) (dig_len _) w
          go_wp2_with fail
          refine (tie_ok HS.out.rx (by have := LB.out; omega) HS.out.bx).mono ?_
          rintro e w8 ⟨rfl, hb⟩
          have HS8 := hd (HS.out.step hb)
          clear hb HS
          go_wp2_with fail
          refine (RA.out _).mono ?_
          rintro e w9 ⟨rfl, hb⟩
          have HS9 := hd (HS8.out.step hb)
          clear hb HS8 RA
          obtain ⟨cap, w10, hr, hsl, hb⟩ := CV.out w9
          have SL := hd hsl
          have HS10 := hd (HS9.out.step hb)
          clear hsl hb CV HS9
          go_wp2_with fail
          clear hr
          refine (of_ok SL.out (by have := LB.out; omega) HS10.out.bx).mono ?_
          rintro e w11 ⟨rfl, hb⟩
          have HS11 := hd (HS10.out.step hb)
          clear hb HS10 SL
          generalize (bs (Sha.dig l)).toArray = dg at *
          go_wp2_with fail
          have HS12 := hd (HS11.out.step ((Below.refl _ _).alloc (Nat.le_refl _) (Obj.cells #[Value.int IntKind.u8 98] 5 (1, 2))))
          have NE : Hid (w11.heap.size ≠ ky) := hd (fun e => by have := HS11.out.rx.lt; omega)
          refine (HS12.out.add (sl_ap (sl_const w11 [98] (by decide) 5 (1, 2) (by decide)) NE.out) (fun x hx => by rw [List.mem_singleton.1 hx]; exact ⟨by decide, by decide⟩) (by have := LB.out; omega)).mono ?_
          rintro e w13 ⟨rfl, h13⟩
          rw [← HL.out] at h13
          have HS13 := hd h13
          clear h13 HS11 HS12
          go_wp2_with fail
          go_roundw
          case rel => exact ⟨k + 1, by omega, by go_num, HS13.out⟩
          case measure => simp [intOf]; omega
        · have hnlt : ¬ ((k : Int) < 200) := by omega
          have N0 : Hid (NoKnot wr (.pointer none) ∧ Below W.heap.size W wr) := hd ⟨Or.inl rfl, HS.out.bel⟩
          clear HS hk hlt
          go_wp2_with fail
          go_loopw [7, 8] (fun p i wr => ∃ k : Nat, k ≤ 2 ∧ i = .int .i64 (k : Int) ∧ NoKnot wr p ∧ Below W.heap.size W wr) (fun _ i _ => 2 - (intOf i).toNat)
          case atStart => exact ⟨0, Nat.zero_le _, rfl, N0.out.1, N0.out.2⟩
          case round =>
            clear N0
            obtain ⟨k, hk, rfl, hno, hbe⟩ := hrel
            have NO := hd hno
            have BE := hd hbe
            clear hno hbe
            by_cases hlt : k < 2
            · have hlt' : (k : Int) < 2 := by omega
              have s1 : IntKind.i64.wrap ((k : Int) + 1) = ((k + 1 : Nat) : Int) := by rw [IntKind.wrap_i64]; omega
              have TK : Hid (∀ w p, NoKnot w p → Calls Tryd.prog 10 #[p] w fun e w' => e = .returned (.agg (bs (List.replicate 32 0)).toArray) ∧ Below w.heap.size w w') := hd (fun w p h => tie_k h)
              have e28 : ∀ w, (Op.equalIn 10000 28 (.agg (bs (List.replicate 32 0)).toArray) (.agg #[.int .u8 0, .int .u8 0, .int .u8 0, .int .u8 0, .int .u8 0, .int .u8 0, .int .u8 0, .int .u8 0, .int .u8 0, .int .u8 0, .int .u8 0, .int .u8 0, .int .u8 0, .int .u8 0, .int .u8 0, .int .u8 0, .int .u8 0, .int .u8 0, .int .u8 0, .int .u8 0, .int .u8 0, .int .u8 0, .int .u8 0, .int .u8 0, .int .u8 0, .int .u8 0, .int .u8 0, .int .u8 0, .int .u8 0, .int .u8 0, .int .u8 0, .int .u8 0])).run Tryd.prog w = .ok true w := fun w => eq28 (List.replicate 32 0) rfl w
              generalize (bs (List.replicate 32 0)).toArray = dz at *
              go_wp2_with fail
              have BA : Hid (Below wr.heap.size wr (wr.alloc (Obj.cells #[Value.int IntKind.u8 120] 5 (1, 2)))) := hd ((Below.refl _ _).alloc (Nat.le_refl _) _)
              have N1 := hd (NO.out.keep BA.out)
              have B1 := hd (below_below BE.out BA.out)
              clear BA NO BE
              generalize wr.alloc (Obj.cells #[Value.int IntKind.u8 120] 5 (1, 2)) = wa at *
              generalize wr.heap.size = sz at *
              refine (add_k _ N1.out).mono ?_
              rintro e wb ⟨rfl, rfl⟩
              go_wp2_with fail
              refine (TK.out _ _ N1.out).mono ?_
              rintro e wc ⟨rfl, hb⟩
              have N2 := hd (N1.out.keep hb)
              have B2 := hd (below_below B1.out hb)
              clear hb N1 B1 TK
              go_wp2_with fail
              refine (len_k N2.out).mono ?_
              rintro e wd ⟨rfl, rfl⟩
              clear e28 N2
              go_wp2_with fail
              go_roundw
              case rel => exact ⟨k + 1, by omega, by go_num, noKnot_zero wd, B2.out.alloc B2.out.size _⟩
              case measure => simp [intOf]; omega
            · have hnlt2 : ¬ ((k : Int) < 2) := by omega
              clear NO hk hlt
              go_wp2_with fail
              refine (works_ok _ (HG.out.keep BE.out)).mono ?_
              rintro e wz ⟨rfl, hb⟩
              have BZ := hd (below_below BE.out hb)
              clear hb BE
              go_wp2_with fail
              go_ret
              exact ⟨rfl, BZ.out⟩
end Go.Proofs.YtopgjeakkpedlaaDoor.knotKnown
