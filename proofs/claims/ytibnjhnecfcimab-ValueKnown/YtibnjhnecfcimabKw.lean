/- ValueKnown: the walk. -/
import Derived.Test.YtibnjhnecfcimabKr
namespace Go.Proofs.Ytibnjhnecfcimab
open Go.RowKit
set_option linter.unusedVariables false

set_option maxRecDepth 100000 in
set_option maxHeartbeats 8000000 in
theorem known_walk (w : World) : Calls Try.prog 3 #[] w fun e w' => VEnd w (.bool true) e w' := by
  go_enter Try.func3, Try.ntmps3
  go_wp2_with fail
  refine (check_ok 1 9007199254740991 ⟨#[]⟩ cO1 w).mono ?_
  rintro e w1 ⟨rfl, hk⟩
  have B1 := hd hk
  clear hk
  go_wp2_with fail
  refine (check_ok 1 (-9007199254740991) ⟨#[]⟩ cO2 w1).mono ?_
  rintro e w2 ⟨rfl, hk⟩
  have B2 := hd (below_below B1.out hk)
  clear hk B1
  go_wp2_with fail
  refine (none_ok 1 9007199254740992 ⟨#[]⟩ cN1 w2).mono ?_
  rintro e w3 ⟨rfl, hk⟩
  have B3 := hd (below_below B2.out hk)
  clear hk B2
  go_wp2_with fail
  refine (none_ok 1 (-9007199254740992) ⟨#[]⟩ cN2 w3).mono ?_
  rintro e w4 ⟨rfl, hk⟩
  have B4 := hd (below_below B3.out hk)
  clear hk B3
  go_wp2_with fail
  refine (repeat_any ⟨#[120]⟩ 64 w4 (by decide) (by decide)).mono ?_
  rintro e w5 ⟨S64, rfl, hs64, hk⟩
  have B5 := hd (below_below B4.out hk)
  have hO : okV (2, 0, S64) = true := okV_bytes (by rw [hs64]; decide)
  have HO := hd hO
  clear hk B4 hs64 hO
  go_wp2_with fail
  refine (check_ok 2 0 S64 HO.out w5).mono ?_
  rintro e w6 ⟨rfl, hk⟩
  have B6 := hd (below_below B5.out hk)
  clear hk B5
  go_wp2_with fail
  refine (repeat_any ⟨#[120]⟩ 65 w6 (by decide) (by decide)).mono ?_
  rintro e w7 ⟨S65, rfl, hs65, hk⟩
  have B7 := hd (below_below B6.out hk)
  have hO : okV (2, 0, S65) = false := by rw [okV_2, hs65]; decide +kernel
  have HN := hd hO
  clear hk B6 hs65 hO
  go_wp2_with fail
  refine (none_ok 2 0 S65 HN.out w7).mono ?_
  rintro e w8 ⟨rfl, hk⟩
  have B8 := hd (below_below B7.out hk)
  clear hk B7
  go_wp2_with fail
  refine (none_ok 2 1 ⟨#[]⟩ cN3 w8).mono ?_
  rintro e w9 ⟨rfl, hk⟩
  have B9 := hd (below_below B8.out hk)
  clear hk B8
  go_wp2_with fail
  refine (none_ok 3 (-1) ⟨#[]⟩ cN4 w9).mono ?_
  rintro e w10 ⟨rfl, hk⟩
  have B10 := hd (below_below B9.out hk)
  clear hk B9
  go_wp2_with fail
  refine (none_ok 0 0 ⟨#[]⟩ cN5 w10).mono ?_
  rintro e w11 ⟨rfl, hk⟩
  have B11 := hd (below_below B10.out hk)
  clear hk B10
  go_wp2_with fail
  refine (none_ok 3 0 ⟨#[120]⟩ cN6 w11).mono ?_
  rintro e w12 ⟨rfl, hk⟩
  have B12 := hd (below_below B11.out hk)
  clear hk B11
  clear HO HN
  go_wp2_with fail
  obtain ⟨BD0, hk⟩ := made_bad w12
  have B13 := hd (below_below B12.out hk)
  have BD := hd BD0
  clear hk BD0 B12
  generalize (((((((w12.alloc (Obj.cells #[Value.string ⟨#[97]⟩, Value.int IntKind.i64 0, Value.int IntKind.u32 0, Value.int IntKind.i64 3, Value.int IntKind.i64 0, Value.string ⟨#[]⟩] 32)).alloc (Obj.cells #[Value.string ⟨#[98]⟩, Value.int IntKind.i64 0, Value.int IntKind.u32 0, Value.int IntKind.i64 3, Value.int IntKind.i64 0, Value.string ⟨#[]⟩] 32)).alloc (Obj.cells #[Value.string ⟨#[98]⟩, Value.int IntKind.i64 0, Value.int IntKind.u32 0, Value.int IntKind.i64 3, Value.int IntKind.i64 0, Value.string ⟨#[]⟩, Value.string ⟨#[97]⟩, Value.int IntKind.i64 0, Value.int IntKind.u32 0, Value.int IntKind.i64 3, Value.int IntKind.i64 0, Value.string ⟨#[]⟩] 32)).alloc (Obj.cells #[Value.string ⟨#[97]⟩, Value.int IntKind.i64 0, Value.int IntKind.u32 0, Value.int IntKind.i64 3, Value.int IntKind.i64 0, Value.string ⟨#[]⟩, Value.string ⟨#[97]⟩, Value.int IntKind.i64 0, Value.int IntKind.u32 0, Value.int IntKind.i64 3, Value.int IntKind.i64 0, Value.string ⟨#[]⟩] 32)).alloc (Obj.cells #[Value.string ⟨#[65]⟩, Value.int IntKind.i64 0, Value.int IntKind.u32 0, Value.int IntKind.i64 3, Value.int IntKind.i64 0, Value.string ⟨#[]⟩] 32)).alloc (Obj.cells #[Value.string ⟨#[97]⟩, Value.int IntKind.i64 0, Value.int IntKind.u32 0, Value.int IntKind.i64 0, Value.int IntKind.i64 0, Value.string ⟨#[]⟩] 32)).alloc (Obj.cells #[Value.string ⟨#[97]⟩, Value.int IntKind.i64 8, Value.int IntKind.u32 0, Value.int IntKind.i64 3, Value.int IntKind.i64 0, Value.string ⟨#[]⟩] 32)).alloc (Obj.cells #[Value.slice (some ⟨w12.heap.size + 1 + 1, 0, none⟩) 2 2, Value.slice (some ⟨w12.heap.size + 1 + 1 + 1, 0, none⟩) 2 2, Value.slice (some ⟨w12.heap.size + 1 + 1 + 1 + 1, 0, none⟩) 1 1, Value.slice (some ⟨w12.heap.size + 1 + 1 + 1 + 1 + 1, 0, none⟩) 1 1, Value.slice (some ⟨w12.heap.size + 1 + 1 + 1 + 1 + 1 + 1, 0, none⟩) 1 1] 33) = w13 at *
  generalize w12.heap.size = N at *
  clear w1 w2 w3 w4 w5 w6 w7 w8 w9 w10 w11
  go_loopw [5, 6, 7] (fun i _ _ wr => ∃ k : Nat, k ≤ 5 ∧ i = .int .i64 (k : Int) ∧ Below w.heap.size w wr ∧ BAD wr N) (fun i _ _ _ => 5 - (intOf i).toNat)
  case atStart => exact ⟨0, Nat.zero_le _, rfl, B13.out, BD.out⟩
  case round =>
    obtain ⟨k, hk, rfl, hb, hl⟩ := hrel
    have HB := hd hb
    have HS := hd hl
    clear hb hl B13 BD
    by_cases hlt : k < 5
    · have hlt' : (k : Int) < 5 := by omega
      have HLT := hd hlt
      obtain ⟨x, m, c0, hel⟩ := HS.out.rows k hlt
      have HEL := hd hel
      clear hel hlt
      go_wp2_with fail
      refine (attrs_bad HEL.out (badL_not k HLT.out)).mono ?_
      rintro e wg ⟨rfl, hk1⟩
      have HB1 := hd (below_below HB.out hk1)
      have HS1 := hd (HS.out.keep hk1)
      clear hk1 HB HS c0 HEL
      go_wp2_with fail
      go_roundw
      case rel => exact ⟨k + 1, by have := HLT.out; omega, by go_num, HB1.out, HS1.out⟩
      case measure => simp [intOf]; omega
    · have h5 : k = 5 := by omega
      subst h5
      rw [show ((5 : Nat) : Int) = 5 from rfl]
      clear hk hlt w13
      generalize wr = w13 at *
      go_wp2_with fail
      go_loopw [8, 9, 10] (fun v i _ wr => ∃ k : Nat, k ≤ 9 ∧ i = .int .i64 (k : Int) ∧ Below w13.heap.size w13 wr ∧ OwA w13.heap.size wr v (nmL k)) (fun _ i _ _ => 9 - (intOf i).toNat)
      case atStart => exact ⟨0, Nat.zero_le _, rfl, Below.refl _ _, OwA.nil _ _⟩
      case round =>
        obtain ⟨k, hk, rfl, hb, ho⟩ := hrel
        have HC := hd hb
        have HSO := hd (HS.out.one.keep hb)
        obtain ⟨vx, vc, hv⟩ := ho.form
        rw [nmL_len] at hv
        subst hv
        have HO := hd ho
        clear hb ho
        by_cases hlt : k < 9
        · have hlt' : (k : Int) < 9 := by omega
          have HLT := hd hlt
          have c0 := HSO.out.cell 0
          have c1 := HSO.out.cell 1
          have c2 := HSO.out.cell 2
          have c3 := HSO.out.cell 3
          have c4 := HSO.out.cell 4
          have c5 := HSO.out.cell 5
          simp at c0 c1 c2 c3 c4 c5
          have hw1 : IntKind.i64.wrap ((97 : Int) + (k : Int)) = 97 + (k : Int) := by rw [IntKind.wrap_i64]; omega
          have hw2 : IntKind.u8.wrap ((97 : Int) + (k : Int)) = 97 + (k : Int) := by show (97 + (k : Int)) % 256 = _; omega
          clear hlt
          have hz1 : (wr.alloc (Obj.cells #[Value.string ⟨#[97]⟩, Value.int IntKind.i64 0, Value.int IntKind.u32 0, Value.int IntKind.i64 3, Value.int IntKind.i64 0, Value.string ⟨#[]⟩] 32)).heap.size = wr.heap.size + 1 := by simp
          have hbt := built (wr.alloc (Obj.cells #[Value.string ⟨#[97]⟩, Value.int IntKind.i64 0, Value.int IntKind.u32 0, Value.int IntKind.i64 3, Value.int IntKind.i64 0, Value.string ⟨#[]⟩] 32)) [97 + (k : Int)] #[Value.int IntKind.u8 (97 + (k : Int))] rfl 1 rfl (fun y hy => by have := HLT.out; simp at hy; omega) (by simp)
          rw [hz1] at hbt
          have hcv := conv_bs hbt
          obtain ⟨t, ht⟩ : ∃ t, strOfNums [97 + (k : Int)] = t := ⟨_, rfl⟩
          rw [ht] at hcv
          have HT : Hid (nmA k = (t, 0, 0, 3, 0, ⟨#[]⟩)) := hd (by unfold nmA; rw [ht])
          clear ht hbt
          have BX := below2 wr (Obj.cells #[Value.string t, Value.int IntKind.i64 0, Value.int IntKind.u32 0, Value.int IntKind.i64 3, Value.int IntKind.i64 0, Value.string ⟨#[]⟩] 32) (Obj.cells #[Value.int IntKind.u8 (97 + (k : Int))] 5)
          have hz2 : ((wr.alloc (Obj.cells #[Value.string t, Value.int IntKind.i64 0, Value.int IntKind.u32 0, Value.int IntKind.i64 3, Value.int IntKind.i64 0, Value.string ⟨#[]⟩] 32)).alloc (Obj.cells #[Value.int IntKind.u8 (97 + (k : Int))] 5)).heap.size = wr.heap.size + 1 + 1 := by simp
          have BY := below1 ((wr.alloc (Obj.cells #[Value.string t, Value.int IntKind.i64 0, Value.int IntKind.u32 0, Value.int IntKind.i64 3, Value.int IntKind.i64 0, Value.string ⟨#[]⟩] 32)).alloc (Obj.cells #[Value.int IntKind.u8 (97 + (k : Int))] 5)) (Obj.cells #[Value.string t, Value.int IntKind.i64 0, Value.int IntKind.u32 0, Value.int IntKind.i64 3, Value.int IntKind.i64 0, Value.string ⟨#[]⟩] 32)
          have BZ := hd (below_below BX BY)
          obtain ⟨v7, w7, hr7, o7, k7⟩ := ((HO.out.keep BX).keep BY).app (a := (t, 0, 0, 3, 0, ⟨#[]⟩)) (Bk.new _ 32 #[Value.string t, Value.int IntKind.i64 0, Value.int IntKind.u32 0, Value.int IntKind.i64 3, Value.int IntKind.i64 0, Value.string ⟨#[]⟩]) (Nat.le_trans HC.out.size BZ.out.size) (by rw [nmL_len]; omega) 33
          obtain ⟨x7, cap7, hv7⟩ := o7.form
          subst hv7
          rw [List.length_append, nmL_len, hz2] at hr7
          have HR7 := hd hr7
          have O7 := hd o7
          rw [List.length_append, nmL_len] at O7
          have HD := hd ((HC.out.trans (BZ.out.mono HC.out.size)).trans k7)
          clear hr7 o7 k7 BX BY hz2 hz1
          go_wp2_with (at_builtin; refine wpList_append_run _ rfl _ _ _ _ rfl _ _ rfl rfl _ w7 HR7.out ?_)
          go_roundw
          case rel => exact ⟨k + 1, by have := HLT.out; omega, by go_num, HD.out, by rw [nmL_succ, HT.out]; exact O7.out⟩
          case measure => simp [intOf]; omega
        · have h9 : k = 9 := by omega
          subst h9
          rw [show ((9 : Nat) : Int) = 9 from rfl]
          clear hk hlt
          have BQ := hd (below_below HB.out HC.out)
          have HF := hd HO.out.el
          have hcap := HF.out.cap9
          obtain ⟨g9, off9, rfl⟩ := hcap.1
          have hcap9 : (8 : Int) ≤ (vc : Int) := by have := hcap.2; omega
          have HF8 := hd (HF.out.front8)
          clear hcap HB HS HC HO HSO
          generalize wr = wq at *
          go_wp2_with fail
          refine (attrs_bad HF.out nmL9).mono ?_
          rintro e w14 ⟨rfl, hk⟩
          have B14 := hd (below_below BQ.out hk)
          have G14 := hd (HF8.out.keep hk)
          clear hk HF HF8 BQ
          go_wp2_with fail
          refine (attrs_ok G14.out nmL8 nmL8_wf).mono ?_
          rintro e w15 ⟨p15, c15, rfl, _, hk⟩
          have B15 := hd (below_below B14.out hk)
          clear hk G14 B14
          obtain ⟨l8, hl8⟩ : ∃ q, (listB (nmL 8)).length = q := ⟨_, rfl⟩
          rw [hl8]
          clear hl8
          go_wp2_with fail
          obtain ⟨RW0, hk⟩ := made_wrong w15
          have B16 := hd (below_below B15.out hk)
          have RW := hd RW0
          clear hk RW0 B15
          generalize ((((w15.alloc (Obj.cells #[Value.int IntKind.u8 0] 5)).alloc (Obj.cells #[Value.int IntKind.u8 4, Value.int IntKind.u8 0] 5)).alloc (Obj.cells #[Value.int IntKind.u8 3, Value.int IntKind.u8 2] 5)).alloc (Obj.cells #[Value.int IntKind.u8 2, Value.int IntKind.u8 65] 5)).alloc (Obj.cells #[Value.slice (some ⟨w15.heap.size, 0, none⟩) 1 1, Value.slice (some ⟨w15.heap.size + 1, 0, none⟩) 2 2, Value.slice (some ⟨w15.heap.size + 1 + 1, 0, none⟩) 2 2, Value.slice (some ⟨w15.heap.size + 1 + 1 + 1, 0, none⟩) 2 2] 35) = w16 at *
          generalize hM : w15.heap.size + 1 + 1 + 1 + 1 = M at *
          generalize w15.heap.size = N2 at *
          go_loopw [16, 17] (fun i _ wz => ∃ k : Nat, k ≤ 4 ∧ i = .int .i64 (k : Int) ∧ Below w.heap.size w wz ∧ RWS Go.Proofs.Ytibnjhnecfcimab.wr wz N2 M) (fun i _ _ => 4 - (intOf i).toNat)
          case atStart => exact ⟨0, Nat.zero_le _, rfl, B16.out, RW.out⟩
          case round =>
            obtain ⟨k, hk, rfl, hb, hl⟩ := hrel
            have HB := hd hb
            have HS := hd hl
            clear hb hl B16 RW
            by_cases hlt : k < 4
            · have hlt' : (k : Int) < 4 := by omega
              have HLT := hd hlt
              obtain ⟨x, m, c0, hm, hel⟩ := HS.out.rows k hlt
              rw [hM] at c0
              obtain ⟨v7, w7, hr7, hx7, k7⟩ := append_z70 hel hm (wr_len k)
              have HR7 := hd hr7
              have HX7 := hd hx7.bx
              have B7 := hd (below_below HB.out k7)
              have S7 := hd (HS.out.keep k7)
              clear hr7 hx7 k7 hel hm HB HS
              go_wp2_with (at_builtin; refine wpList_append_run _ rfl _ _ _ _ rfl _ _ rfl rfl _ w7 HR7.out ?_)
              refine (New_bx HX7.out).mono ?_
              rintro e w8 ⟨rb, rfl, hle, hr, hk8⟩
              have R8 := hd hr
              have HLE := hd hle
              have K8 := hd hk8
              clear hr hle hk8 HX7 c0 HR7
              go_wp2_with fail
              refine (TakeV_wr R8.out HLE.out HLT.out).mono ?_
              rintro e w9 ⟨rfl, hr9, hk9⟩
              have hk97 := K8.out.trans (hk9.below w7.heap.size K8.out.size (fun j hj e => by have h1 := HLE.out; have e2 : j = rb := e; omega))
              have B9 := hd (below_below B7.out hk97)
              have S9 := hd (S7.out.keep hk97)
              have R9 := hd hr9
              clear hr9 hk9 hk97 K8 R8 B7 S7 HLE
              by_cases h3 : k = 3
              · subst h3
                have R9' : Hid (Rd w7.heap.size w9 rb [] 5) := hd R9.out
                clear R9
                rw [show ((3 : Nat) : Int) = 3 from rfl]
                go_wp2_with (go_at_call 10; refine (Err_any R9'.out).mono ?_; rintro e w' ⟨rfl, rfl⟩)
                go_roundw
                case rel => exact ⟨4, by omega, rfl, B9.out, S9.out⟩
                case measure => simp [intOf]
              · have R9' : Hid (Rd w7.heap.size w9 rb [] 4) := hd (by have := R9.out; unfold wrE at this; rw [if_neg h3] at this; exact this)
                clear R9
                go_wp2_with (go_at_call 10; refine (Err_any R9'.out).mono ?_; rintro e w' ⟨rfl, rfl⟩)
                go_roundw
                case rel => exact ⟨k + 1, by have := HLT.out; omega, by go_num, B9.out, S9.out⟩
                case measure => simp [intOf]; omega
            · have h4 : k = 4 := by omega
              subst h4
              rw [show ((4 : Nat) : Int) = 4 from rfl]
              clear hk hlt HS hM
              generalize wr = w17 at *
              go_wp2_with fail
              obtain ⟨LW0, hk⟩ := made_lists w17
              have B18 := hd (below_below HB.out hk)
              have LW := hd LW0
              clear hk LW0 HB
              generalize ((((w17.alloc (Obj.cells #[Value.int IntKind.u8 9] 5)).alloc (Obj.cells #[Value.int IntKind.u8 2, Value.int IntKind.u8 1, Value.int IntKind.u8 98, Value.int IntKind.u8 0, Value.int IntKind.u8 0, Value.int IntKind.u8 3, Value.int IntKind.u8 0, Value.int IntKind.u8 1, Value.int IntKind.u8 97, Value.int IntKind.u8 0, Value.int IntKind.u8 0, Value.int IntKind.u8 3, Value.int IntKind.u8 0] 5)).alloc (Obj.cells #[Value.int IntKind.u8 1, Value.int IntKind.u8 1, Value.int IntKind.u8 65, Value.int IntKind.u8 0, Value.int IntKind.u8 0, Value.int IntKind.u8 3, Value.int IntKind.u8 0] 5)).alloc (Obj.cells #[Value.int IntKind.u8 1, Value.int IntKind.u8 1, Value.int IntKind.u8 97, Value.int IntKind.u8 8, Value.int IntKind.u8 0, Value.int IntKind.u8 3, Value.int IntKind.u8 0] 5)).alloc (Obj.cells #[Value.slice (some ⟨w17.heap.size, 0, none⟩) 1 1, Value.slice (some ⟨w17.heap.size + 1, 0, none⟩) 13 13, Value.slice (some ⟨w17.heap.size + 1 + 1, 0, none⟩) 7 7, Value.slice (some ⟨w17.heap.size + 1 + 1 + 1, 0, none⟩) 7 7] 35) = w18 at *
              generalize hM3 : w17.heap.size + 1 + 1 + 1 + 1 = M3 at *
              generalize w17.heap.size = N3 at *
              go_loopw [19, 20] (fun i _ wy => ∃ k : Nat, k ≤ 4 ∧ i = .int .i64 (k : Int) ∧ Below w.heap.size w wy ∧ RWS ls wy N3 M3) (fun i _ _ => 4 - (intOf i).toNat)
              case atStart => exact ⟨0, Nat.zero_le _, rfl, B18.out, LW.out⟩
              case round =>
                obtain ⟨k, hk, rfl, hb, hl⟩ := hrel
                have HB := hd hb
                have HS := hd hl
                clear hb hl B18 LW
                by_cases hlt : k < 4
                · have hlt' : (k : Int) < 4 := by omega
                  have HLT := hd hlt
                  obtain ⟨x, m, c0, hm, hel⟩ := HS.out.rows k hlt
                  rw [hM3] at c0
                  have HX : Hid (Bx M3 wr (.slice x m m) (ls k)) := hd (Or.inl hel)
                  clear hel hm
                  go_wp2_with fail
                  refine (New_bx HX.out).mono ?_
                  rintro e w19 ⟨rb, rfl, hle, hr, hk8⟩
                  have R8 := hd hr
                  have HLE := hd hle
                  have K8 := hd hk8
                  clear hr hle hk8 HX c0
                  go_wp2_with fail
                  refine (TakeL_ls R8.out HLE.out HLT.out).mono ?_
                  rintro e w20 ⟨⟨x20, c20, rfl⟩, hr9, hk9⟩
                  have hk97 := K8.out.trans (hk9.below wr.heap.size K8.out.size (fun j hj e => by have h1 := HLE.out; have e2 : j = rb := e; omega))
                  have B9 := hd (below_below HB.out hk97)
                  have S9 := hd (HS.out.keep hk97)
                  have R9 := hd hr9
                  clear hr9 hk9 hk97 K8 R8 HB HS HLE
                  go_wp2_with (go_at_call 10; refine (Err_any R9.out).mono ?_; rintro e w' ⟨rfl, rfl⟩)
                  go_roundw
                  case rel => exact ⟨k + 1, by have := HLT.out; omega, by go_num, B9.out, S9.out⟩
                  case measure => simp [intOf]; omega
                · have h4 : k = 4 := by omega
                  subst h4
                  rw [show ((4 : Nat) : Int) = 4 from rfl]
                  clear hk hlt HS hM3
                  generalize wr = w21 at *
                  go_wp2_with fail
                  refine (works_true w21).mono ?_
                  rintro e w22 ⟨rfl, hk⟩
                  have B22 := hd (below_below HB.out hk)
                  clear hk HB
                  go_wp2_with fail
                  refine (TakeV_nil w22).mono ?_
                  rintro e w23 ⟨rfl, hk⟩
                  have B23 := hd (below_below B22.out hk)
                  clear hk B22
                  rw [show V3 valZ = .agg #[.int .i64 0, .int .i64 0, .string ⟨#[]⟩] from rfl]
                  go_wp2_with fail
                  refine (TakeL_nil w23).mono ?_
                  rintro e w24 ⟨rfl, hk⟩
                  have B24 := hd (below_below B23.out hk)
                  clear hk B23
                  go_wp2_with fail
                  go_ret
                  exact VEnd.mk B24.out

end Go.Proofs.Ytibnjhnecfcimab
