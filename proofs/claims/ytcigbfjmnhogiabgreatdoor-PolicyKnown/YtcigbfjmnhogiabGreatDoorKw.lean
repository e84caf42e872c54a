/- PolicyKnown: the walk. -/
import Derived.Test.YtcigbfjmnhogiabGreatDoorKq
import Derived.Test.YtcigbfjmnhogiabGreatDoorKr
namespace Go.Proofs.YtcigbfjmnhogiabGreatDoor
open Go.RowKit
set_option linter.unusedVariables false

set_option maxRecDepth 100000 in
set_option maxHeartbeats 8000000 in
theorem walk (w : World) (h8 : 6 ≤ w.heap.size) (hg : Glob w) : Calls Tryz.prog 3 #[] w fun e w' => VEnd w (.bool true) e w' := by
  have HP : Hid (∀ W, Below w.heap.size w W → 6 ≤ W.heap.size ∧ Glob W) := hd fun W k => ⟨Nat.le_trans h8 k.size, hg.keep k⟩
  clear hg h8
  go_enter Tryz.func3, Tryz.ntmps3
  go_wp2_with fail
  refine (repeat24 _).mono ?_
  rintro e w1 ⟨rfl, hb⟩
  have HB := hd hb
  clear hb
  go_wp2_with fail
  refine (isname_at _ true nm_0 _).mono ?_
  rintro e w2 ⟨rfl, hb⟩
  have HB' := hd (HB.out.trans (hb.mono HB.out.size))
  clear HB hb
  have HB := HB'
  clear HB'
  go_wp2_with fail
  refine (isname_at _ true nm_1 _).mono ?_
  rintro e w3 ⟨rfl, hb⟩
  have HB' := hd (HB.out.trans (hb.mono HB.out.size))
  clear HB hb
  have HB := HB'
  clear HB'
  go_wp2_with fail
  refine (isname_at _ false nm_2 _).mono ?_
  rintro e w4 ⟨rfl, hb⟩
  have HB' := hd (HB.out.trans (hb.mono HB.out.size))
  clear HB hb
  have HB := HB'
  clear HB'
  go_wp2_with fail
  refine (isname_at _ false nm_3 _).mono ?_
  rintro e w5 ⟨rfl, hb⟩
  have HB' := hd (HB.out.trans (hb.mono HB.out.size))
  clear HB hb
  have HB := HB'
  clear HB'
  go_wp2_with fail
  refine (isname_at _ false nm_4 _).mono ?_
  rintro e w6 ⟨rfl, hb⟩
  have HB' := hd (HB.out.trans (hb.mono HB.out.size))
  clear HB hb
  have HB := HB'
  clear HB'
  go_wp2_with fail
  refine (isname_at _ false nm_5 _).mono ?_
  rintro e w7 ⟨rfl, hb⟩
  have HB' := hd (HB.out.trans (hb.mono HB.out.size))
  clear HB hb
  have HB := HB'
  clear HB'
  go_wp2_with fail
  refine (isname_at _ false nm_6 _).mono ?_
  rintro e w8 ⟨rfl, hb⟩
  have HB' := hd (HB.out.trans (hb.mono HB.out.size))
  clear HB hb
  have HB := HB'
  clear HB'
  go_wp2_with fail
  refine (isname_at _ false nm_7 _).mono ?_
  rintro e w9 ⟨rfl, hb⟩
  have HB' := hd (HB.out.trans (hb.mono HB.out.size))
  clear HB hb
  have HB := HB'
  clear HB'
  go_wp2_with fail
  clear w1 w2 w3 w4 w5 w6 w7 w8
  have L0 := bl_new w9
  have B0 := HB.out.trans ((below1 w9 (Obj.cells #[Value.string ⟨#[114, 117, 108, 101]⟩, Value.string ⟨#[114, 117, 108, 101, 32, 97]⟩, Value.string ⟨#[114, 117, 108, 101, 32, 97, 32, 56]⟩, Value.string ⟨#[114, 117, 108, 101, 32, 65, 32, 49]⟩, Value.string ⟨#[114, 117, 108, 101, 32, 97, 32, 49, 32]⟩, Value.string ⟨#[32, 114, 117, 108, 101, 32, 97, 32, 49]⟩, Value.string ⟨#[114, 117, 108, 101, 32, 32, 97, 32, 49]⟩, Value.string ⟨#[114, 117, 108, 101, 32, 97, 32, 49, 32, 50]⟩, Value.string ⟨#[114, 117, 108, 101, 115, 32, 97, 32, 49]⟩, Value.string ⟨#[114, 101, 97, 100, 101, 114, 32, 97, 32, 49, 32, 50]⟩, Value.string ⟨#[114, 101, 97, 100, 101, 114, 32, 97, 32, 49, 32, 49, 32, 53]⟩, Value.string ⟨#[114, 101, 97, 100, 101, 114, 32, 97, 32, 49, 32, 49, 48, 48, 49, 32, 53]⟩, Value.string ⟨#[114, 101, 97, 100, 101, 114, 32, 97, 32, 49, 32, 50, 32, 45, 49]⟩, Value.string ⟨#[114, 101, 97, 100, 101, 114, 32, 97, 32, 49, 32, 50, 32, 49, 48, 48, 48, 48, 48, 49]⟩, Value.string ⟨#[114, 101, 97, 100, 101, 114, 32, 97, 32, 49, 32, 48, 50, 32, 53]⟩, Value.string ⟨#[114, 101, 97, 100, 101, 114, 32, 97, 32, 49, 32, 50, 32, 48, 53]⟩, Value.string ⟨#[114, 101, 97, 100, 101, 114, 32, 97, 32, 120, 32, 50, 32, 53]⟩, Value.string ⟨#[114, 101, 97, 100, 101, 114, 32, 49, 32, 49, 32, 50, 32, 53]⟩, Value.string ⟨#[120]⟩] 9)).mono HB.out.size)
  generalize w9.alloc (Obj.cells #[Value.string ⟨#[114, 117, 108, 101]⟩, Value.string ⟨#[114, 117, 108, 101, 32, 97]⟩, Value.string ⟨#[114, 117, 108, 101, 32, 97, 32, 56]⟩, Value.string ⟨#[114, 117, 108, 101, 32, 65, 32, 49]⟩, Value.string ⟨#[114, 117, 108, 101, 32, 97, 32, 49, 32]⟩, Value.string ⟨#[32, 114, 117, 108, 101, 32, 97, 32, 49]⟩, Value.string ⟨#[114, 117, 108, 101, 32, 32, 97, 32, 49]⟩, Value.string ⟨#[114, 117, 108, 101, 32, 97, 32, 49, 32, 50]⟩, Value.string ⟨#[114, 117, 108, 101, 115, 32, 97, 32, 49]⟩, Value.string ⟨#[114, 101, 97, 100, 101, 114, 32, 97, 32, 49, 32, 50]⟩, Value.string ⟨#[114, 101, 97, 100, 101, 114, 32, 97, 32, 49, 32, 49, 32, 53]⟩, Value.string ⟨#[114, 101, 97, 100, 101, 114, 32, 97, 32, 49, 32, 49, 48, 48, 49, 32, 53]⟩, Value.string ⟨#[114, 101, 97, 100, 101, 114, 32, 97, 32, 49, 32, 50, 32, 45, 49]⟩, Value.string ⟨#[114, 101, 97, 100, 101, 114, 32, 97, 32, 49, 32, 50, 32, 49, 48, 48, 48, 48, 48, 49]⟩, Value.string ⟨#[114, 101, 97, 100, 101, 114, 32, 97, 32, 49, 32, 48, 50, 32, 53]⟩, Value.string ⟨#[114, 101, 97, 100, 101, 114, 32, 97, 32, 49, 32, 50, 32, 48, 53]⟩, Value.string ⟨#[114, 101, 97, 100, 101, 114, 32, 97, 32, 120, 32, 50, 32, 53]⟩, Value.string ⟨#[114, 101, 97, 100, 101, 114, 32, 49, 32, 49, 32, 50, 32, 53]⟩, Value.string ⟨#[120]⟩] 9) = wx at *
  generalize w9.heap.size = gl at *
  have HL := hd L0
  have HBX := hd B0
  clear L0 B0 HB w9
  go_loopw [4] (fun i wr => ∃ k : Nat, k ≤ 19 ∧ i = .int .i64 (k : Int) ∧ Below w.heap.size w wr ∧ Bl gl wr) (fun i _ => 19 - (intOf i).toNat)
  case atStart => exact ⟨0, Nat.zero_le _, rfl, HBX.out, HL.out⟩
  case round =>
    obtain ⟨k, hk, rfl, hb, hl⟩ := hrel
    have HB := hd hb
    have HS := hd hl
    clear hb hl HBX HL
    by_cases hlt : k < 19
    · have hlt' : (k : Int) < 19 := by omega
      have c0 := HS.out.2 k hlt
      have hc := fun W h8 hg => bad_all k hlt W h8 hg
      have hadd := bad_add k hlt
      unfold badP at hc hadd
      generalize badsL.getD k ⟨#[]⟩ = s at *
      generalize (⟨#[114, 117, 108, 101, 32, 122, 32, 55, 58, 48, 48, 48, 48, 48, 48, 48, 50, 10]⟩ : ByteArray) ++ s = q at *
      have HC := hd hc
      have HLT := hd hlt
      clear hc hlt
      go_wp2_with fail
      refine (HC.out _ (HP.out _ HB.out).1 (HP.out _ HB.out).2).mono ?_
      rintro e wg ⟨rfl, hk1⟩
      have HB1 := hd (HB.out.trans (hk1.mono HB.out.size))
      have HS1 := hd (HS.out.keep hk1)
      clear hk1 HB HS c0 HC
      unfold nilP
      go_wp2_with fail
      go_roundw
      case rel => exact ⟨k + 1, by have := HLT.out; omega, by go_num, HB1.out.trans ((below1 _ _).mono HB1.out.size), HS1.out.keep (below1 _ _)⟩
      case measure => simp [intOf]; omega
    · have h19 : k = 19 := by omega
      subst h19
      rw [show ((19 : Nat) : Int) = 19 from rfl]
      clear hk hlt HS wx
      generalize wr = wx at *
      go_wp2_with fail
      go_loopw [8, 10] (fun a i wr => ∃ k : Nat, k ≤ 64 ∧ a = .string (tB (rulT k)) ∧ i = .int .i64 (k : Int) ∧ Below w.heap.size w wr) (fun _ i _ => 64 - (intOf i).toNat)
      case atStart => exact ⟨0, Nat.zero_le _, rfl, rfl, HB.out⟩
      case round =>
        obtain ⟨k, hk, rfl, rfl, hb⟩ := hrel
        clear HB
        have HB := hd hb
        clear hb
        by_cases hlt : k < 64
        · have hlt' : (k : Int) < 64 := by omega
          obtain ⟨B, C, add1, add2, add3⟩ := rul_add k hlt
          have HLT := hd hlt
          clear hlt
          go_wp2_with fail
          refine (itoa_ok (k : Int) _ (by omega) (by have := HLT.out; omega) (HP.out _ HB.out).2).mono ?_
          rintro e wg ⟨rfl, hk1⟩
          have HB1 := hd (HB.out.trans (hk1.mono HB.out.size))
          clear hk1 HB
          go_wp2_with fail
          go_roundw
          case rel => exact ⟨k + 1, by have := HLT.out; omega, rfl, by go_num, HB1.out⟩
          case measure => simp [intOf]; omega
        · have hn : k = 64 := by omega
          subst hn
          rw [show ((64 : Nat) : Int) = 64 from rfl]
          clear hk hlt
          clear wx
          generalize wr = wx at *
          go_wp2_with fail
          go_loopw [9, 11] (fun a i wr => ∃ k : Nat, k ≤ 16 ∧ a = .string (tB (rdrT k)) ∧ i = .int .i64 (k : Int) ∧ Below w.heap.size w wr) (fun _ i _ => 16 - (intOf i).toNat)
          case atStart => exact ⟨0, Nat.zero_le _, rfl, rfl, HB.out⟩
          case round =>
            obtain ⟨k, hk, rfl, rfl, hb⟩ := hrel
            clear HB
            have HB := hd hb
            clear hb
            by_cases hlt : k < 16
            · have hlt' : (k : Int) < 16 := by omega
              obtain ⟨B, C, add1, add2, add3⟩ := rdr_add k hlt
              have HLT := hd hlt
              clear hlt
              go_wp2_with fail
              refine (itoa_ok (k : Int) _ (by omega) (by have := HLT.out; omega) (HP.out _ HB.out).2).mono ?_
              rintro e wg ⟨rfl, hk1⟩
              have HB1 := hd (HB.out.trans (hk1.mono HB.out.size))
              clear hk1 HB
              go_wp2_with fail
              go_roundw
              case rel => exact ⟨k + 1, by have := HLT.out; omega, rfl, by go_num, HB1.out⟩
              case measure => simp [intOf]; omega
            · have hn : k = 16 := by omega
              subst hn
              rw [show ((16 : Nat) : Int) = 16 from rfl]
              clear hk hlt
              clear wx
              generalize wr = wx at *
              have s1 := full_sum
              have s2 := rul_sum
              have s3 := rdr_sum
              go_wp2_with fail
              refine (full_at _ (HP.out _ HB.out).1 (HP.out _ HB.out).2).mono ?_
              rintro e wg ⟨g, off, c, y, d, rfl, hf, hk1⟩
              have HF := hd hf
              have HB1 := hd (HB.out.trans (hk1.mono HB.out.size))
              clear hk1 hf HB wx
              go_wp2_with fail
              have P0 : PS w wg.heap.size g off c y d (wg.alloc (Obj.cells #[Value.slice (some { block := g, off := off }) 64 c, Value.slice y 16 d] 28)) := ⟨HB1.out.trans ((below1 _ _).mono HB1.out.size), HF.out.keep (below1 _ _), Bk.new _ _ _⟩
              generalize wg.alloc (Obj.cells #[Value.slice (some { block := g, off := off }) 64 c, Value.slice y 16 d] 28) = wx at *
              generalize wg.heap.size = pb at *
              have HPS := hd P0
              clear P0 HF HB1 wg
              refine (over_at _ (HP.out _ HPS.out.bel).1 (HP.out _ HPS.out.bel).2).mono ?_
              rintro e wg ⟨rfl, hk1⟩
              have HP1 := hd (HPS.out.call hk1)
              clear hk1 HPS
              unfold nilP
              go_wp2_with fail
              have HPS := hd (HP1.out.call (below1 wg (Obj.cells #[Value.slice none 0 0, Value.slice none 0 0] 28)))
              clear HP1 wx
              generalize wg.alloc (Obj.cells #[Value.slice none 0 0, Value.slice none 0 0] 28) = wx at *
              generalize wg.heap.size = p15 at *
              clear wg
              refine (more_at _ (HP.out _ HPS.out.bel).1 (HP.out _ HPS.out.bel).2).mono ?_
              rintro e wg ⟨rfl, hk1⟩
              have HP1 := hd (HPS.out.call hk1)
              clear hk1 HPS
              unfold nilP
              clear s1 s2 s3
              go_wp2_with fail
              have HPS := hd (HP1.out.call (below1 wg (Obj.cells #[Value.slice none 0 0, Value.slice none 0 0] 28)))
              clear HP1 wx
              generalize wg.alloc (Obj.cells #[Value.slice none 0 0, Value.slice none 0 0] 28) = wx at *
              generalize wg.heap.size = p18 at *
              clear wg
              refine wp_region_each 31 (fun W W' => Below W.heap.size W W') (fun i v W => match i with | 0 => MR 65 v W | 1 => OR 65 v W | 2 => MQ 17 v W | 3 => OQ 17 v W | 4 => v = Value.agg #[Value.string ⟨#[98]⟩, Value.int IntKind.i64 0, Value.int IntKind.u32 0] | 5 => v = Value.agg #[Value.string ⟨#[97]⟩, Value.int IntKind.i64 0, Value.int IntKind.u32 0] | 6 => MR 2 v W | 7 => OR 2 v W | 8 => v = Value.agg #[Value.string ⟨#[97]⟩, Value.int IntKind.i64 0, Value.int IntKind.u32 0] | 9 => v = Value.agg #[Value.string ⟨#[97]⟩, Value.int IntKind.i64 0, Value.int IntKind.u32 0] | 10 => MR 2 v W | 11 => OR 2 v W | 12 => v = Value.agg #[Value.int IntKind.i64 8, Value.int IntKind.u32 0] | 13 => v = Value.agg #[Value.string ⟨#[97]⟩, Value.int IntKind.i64 8, Value.int IntKind.u32 0] | 14 => MR 1 v W | 15 => OR 1 v W | 16 => v = Value.agg #[Value.string ⟨#[97]⟩, Value.int IntKind.i64 0, Value.int IntKind.u32 0, Value.int IntKind.i64 1, Value.int IntKind.i64 0] | 17 => MQ 1 v W | 18 => OQ 1 v W | 19 => v = Value.agg #[Value.string ⟨#[97]⟩, Value.int IntKind.i64 0, Value.int IntKind.u32 0, Value.int IntKind.i64 2, Value.int IntKind.i64 (-1)] | 20 => MQ 1 v W | 21 => OQ 1 v W | 22 => v = Value.agg #[Value.string ⟨#[97]⟩, Value.int IntKind.i64 0, Value.int IntKind.u32 0, Value.int IntKind.i64 2, Value.int IntKind.i64 0] | 23 => v = Value.agg #[Value.string ⟨#[97]⟩, Value.int IntKind.i64 0, Value.int IntKind.u32 0, Value.int IntKind.i64 2, Value.int IntKind.i64 0] | 24 => MQ 2 v W | 25 => OQ 2 v W | 26 => v = Value.agg #[Value.int IntKind.i64 (-1), Value.int IntKind.u32 0] | 27 => v = Value.agg #[Value.string ⟨#[97]⟩, Value.int IntKind.i64 (-1), Value.int IntKind.u32 0, Value.int IntKind.i64 2, Value.int IntKind.i64 0] | 28 => MQ 1 v W | 29 => OQ 1 v W | 30 => OdV v W | _ => True) (fun _ W => PS w pb g off c y d W) (by kernel_rfl) (by kernel_rfl) (fun j v W W' hE h => by
                  match j with
                  | 0 => exact MR.keep h hE
                  | 1 => exact OR.keep h hE
                  | 2 => exact MQ.keep h hE
                  | 3 => exact OQ.keep h hE
                  | 4 => exact h
                  | 5 => exact h
                  | 6 => exact MR.keep h hE
                  | 7 => exact OR.keep h hE
                  | 8 => exact h
                  | 9 => exact h
                  | 10 => exact MR.keep h hE
                  | 11 => exact OR.keep h hE
                  | 12 => exact h
                  | 13 => exact h
                  | 14 => exact MR.keep h hE
                  | 15 => exact OR.keep h hE
                  | 16 => exact h
                  | 17 => exact MQ.keep h hE
                  | 18 => exact OQ.keep h hE
                  | 19 => exact h
                  | 20 => exact MQ.keep h hE
                  | 21 => exact OQ.keep h hE
                  | 22 => exact h
                  | 23 => exact h
                  | 24 => exact MQ.keep h hE
                  | 25 => exact OQ.keep h hE
                  | 26 => exact h
                  | 27 => exact h
                  | 28 => exact MQ.keep h hE
                  | 29 => exact OQ.keep h hE
                  | 30 => exact OdV.keep h hE
                  | _ + 31 => trivial) (HPS.out.call (Below.refl _ _).drew) ?_ ?_
              · simp only [List.take_succ_cons, List.take_zero]
                refine Each.start (fun A hA => ?_)
                have PUTS : ∀ v0 v1 v2 v3 v4 v5 v6 v7 v8 v9 v10 v11 v12 v13 v14 v15 v16 v17 v18 v19 v20 v21 v22 v23 v24 v25 v26 v27 v28 v29 v30 : Value, A [v0, v1, v2, v3, v4, v5, v6, v7, v8, v9, v10, v11, v12, v13, v14, v15, v16, v17, v18, v19, v20, v21, v22, v23, v24, v25, v26, v27, v28, v29, v30] = A [v0, v1, v2, v3, v4, v5, v6, v7, v8, v9, v10, v11, v12, v13, v14, v15, v16, v17, v18, v19, v20, v21, v22, v23, v24, v25, v26, v27, v28, v29, v30] := fun v0 v1 v2 v3 v4 v5 v6 v7 v8 v9 v10 v11 v12 v13 v14 v15 v16 v17 v18 v19 v20 v21 v22 v23 v24 v25 v26 v27 v28 v29 v30 => rfl
                conv at PUTS => intro v0 v1 v2 v3 v4 v5 v6 v7 v8 v9 v10 v11 v12 v13 v14 v15 v16 v17 v18 v19 v20 v21 v22 v23 v24 v25 v26 v27 v28 v29 v30; rhs; rw [hA]; simp only [puts, Act.put, List.setIfInBounds_toArray, List.set_cons_zero, List.set_cons_succ]
                refine Each.consA A hA (fun vs W hl => ?_) ?_
                · apply with31 hl
                  clear hl vs
                  intro v0 v1 v2 v3 v4 v5 v6 v7 v8 v9 v10 v11 v12 v13 v14 v15 v16 v17 v18 v19 v20 v21 v22 v23 v24 v25 v26 v27 v28 v29 v30 hg hd K hK
                  clear hd
                  rw [if_pos (by rw [PUTS]; kernel_rfl)]
                  simp only [PUTS, Act.put, List.setIfInBounds_toArray, List.set_cons_zero, List.set_cons_succ] at hK ⊢
                  have mk := made25
                  go_simp
                  exact hK _ _ (below1 _ _) (mr_0 _) (hg.call (below1 _ _))
                refine Each.consA A hA (fun vs W hl => ?_) ?_
                · apply with31 hl
                  clear hl vs
                  intro v0 v1 v2 v3 v4 v5 v6 v7 v8 v9 v10 v11 v12 v13 v14 v15 v16 v17 v18 v19 v20 v21 v22 v23 v24 v25 v26 v27 v28 v29 v30 hg hd K hK
                  have d0 : MR 65 v0 W := hd 0 v0 (by kernel_rfl) rfl
                  clear hd
                  rw [if_pos (by rw [PUTS]; kernel_rfl)]
                  simp only [PUTS, Act.put, List.setIfInBounds_toArray, List.set_cons_zero, List.set_cons_succ] at hK ⊢
                  obtain ⟨g0, l0, rfl, h1, h2⟩ := d0
                  go_simp
                  exact hK _ _ (Below.refl _ _) ⟨g0, l0, rfl, h1, h2⟩ hg
                refine Each.consA A hA (fun vs W hl => ?_) ?_
                · apply with31 hl
                  clear hl vs
                  intro v0 v1 v2 v3 v4 v5 v6 v7 v8 v9 v10 v11 v12 v13 v14 v15 v16 v17 v18 v19 v20 v21 v22 v23 v24 v25 v26 v27 v28 v29 v30 hg hd K hK
                  clear hd
                  rw [if_pos (by rw [PUTS]; kernel_rfl)]
                  simp only [PUTS, Act.put, List.setIfInBounds_toArray, List.set_cons_zero, List.set_cons_succ] at hK ⊢
                  have mk := made26
                  go_simp
                  exact hK _ _ (below1 _ _) (mq_2 _) (hg.call (below1 _ _))
                refine Each.consA A hA (fun vs W hl => ?_) ?_
                · apply with31 hl
                  clear hl vs
                  intro v0 v1 v2 v3 v4 v5 v6 v7 v8 v9 v10 v11 v12 v13 v14 v15 v16 v17 v18 v19 v20 v21 v22 v23 v24 v25 v26 v27 v28 v29 v30 hg hd K hK
                  have d2 : MQ 17 v2 W := hd 2 v2 (by kernel_rfl) rfl
                  clear hd
                  rw [if_pos (by rw [PUTS]; kernel_rfl)]
                  simp only [PUTS, Act.put, List.setIfInBounds_toArray, List.set_cons_zero, List.set_cons_succ] at hK ⊢
                  obtain ⟨g0, l0, rfl, h1, h2⟩ := d2
                  go_simp
                  exact hK _ _ (Below.refl _ _) ⟨g0, l0, rfl, h1, h2⟩ hg
                refine Each.consA A hA (fun vs W hl => ?_) ?_
                · apply with31 hl
                  clear hl vs
                  intro v0 v1 v2 v3 v4 v5 v6 v7 v8 v9 v10 v11 v12 v13 v14 v15 v16 v17 v18 v19 v20 v21 v22 v23 v24 v25 v26 v27 v28 v29 v30 hg hd K hK
                  clear hd
                  rw [if_pos (by rw [PUTS]; kernel_rfl)]
                  simp only [PUTS, Act.put, List.setIfInBounds_toArray, List.set_cons_zero, List.set_cons_succ] at hK ⊢
                  go_simp
                  exact hK _ _ (Below.refl _ _) rfl hg
                refine Each.consA A hA (fun vs W hl => ?_) ?_
                · apply with31 hl
                  clear hl vs
                  intro v0 v1 v2 v3 v4 v5 v6 v7 v8 v9 v10 v11 v12 v13 v14 v15 v16 v17 v18 v19 v20 v21 v22 v23 v24 v25 v26 v27 v28 v29 v30 hg hd K hK
                  clear hd
                  rw [if_pos (by rw [PUTS]; kernel_rfl)]
                  simp only [PUTS, Act.put, List.setIfInBounds_toArray, List.set_cons_zero, List.set_cons_succ] at hK ⊢
                  go_simp
                  exact hK _ _ (Below.refl _ _) rfl hg
                refine Each.consA A hA (fun vs W hl => ?_) ?_
                · apply with31 hl
                  clear hl vs
                  intro v0 v1 v2 v3 v4 v5 v6 v7 v8 v9 v10 v11 v12 v13 v14 v15 v16 v17 v18 v19 v20 v21 v22 v23 v24 v25 v26 v27 v28 v29 v30 hg hd K hK
                  have d4 : v4 = Value.agg #[Value.string ⟨#[98]⟩, Value.int IntKind.i64 0, Value.int IntKind.u32 0] := hd 4 v4 (by kernel_rfl) rfl
                  subst d4
                  have d5 : v5 = Value.agg #[Value.string ⟨#[97]⟩, Value.int IntKind.i64 0, Value.int IntKind.u32 0] := hd 5 v5 (by kernel_rfl) rfl
                  subst d5
                  clear hd
                  rw [if_pos (by rw [PUTS]; kernel_rfl)]
                  simp only [PUTS, Act.put, List.setIfInBounds_toArray, List.set_cons_zero, List.set_cons_succ] at hK ⊢
                  go_simp
                  exact hK _ _ (below1 _ _) (mr_6 _) (hg.call (below1 _ _))
                refine Each.consA A hA (fun vs W hl => ?_) ?_
                · apply with31 hl
                  clear hl vs
                  intro v0 v1 v2 v3 v4 v5 v6 v7 v8 v9 v10 v11 v12 v13 v14 v15 v16 v17 v18 v19 v20 v21 v22 v23 v24 v25 v26 v27 v28 v29 v30 hg hd K hK
                  have d6 : MR 2 v6 W := hd 6 v6 (by kernel_rfl) rfl
                  clear hd
                  rw [if_pos (by rw [PUTS]; kernel_rfl)]
                  simp only [PUTS, Act.put, List.setIfInBounds_toArray, List.set_cons_zero, List.set_cons_succ] at hK ⊢
                  obtain ⟨g0, l0, rfl, h1, h2⟩ := d6
                  go_simp
                  exact hK _ _ (Below.refl _ _) ⟨g0, l0, rfl, h1, h2⟩ hg
                refine Each.consA A hA (fun vs W hl => ?_) ?_
                · apply with31 hl
                  clear hl vs
                  intro v0 v1 v2 v3 v4 v5 v6 v7 v8 v9 v10 v11 v12 v13 v14 v15 v16 v17 v18 v19 v20 v21 v22 v23 v24 v25 v26 v27 v28 v29 v30 hg hd K hK
                  clear hd
                  rw [if_pos (by rw [PUTS]; kernel_rfl)]
                  simp only [PUTS, Act.put, List.setIfInBounds_toArray, List.set_cons_zero, List.set_cons_succ] at hK ⊢
                  go_simp
                  exact hK _ _ (Below.refl _ _) rfl hg
                refine Each.consA A hA (fun vs W hl => ?_) ?_
                · apply with31 hl
                  clear hl vs
                  intro v0 v1 v2 v3 v4 v5 v6 v7 v8 v9 v10 v11 v12 v13 v14 v15 v16 v17 v18 v19 v20 v21 v22 v23 v24 v25 v26 v27 v28 v29 v30 hg hd K hK
                  clear hd
                  rw [if_pos (by rw [PUTS]; kernel_rfl)]
                  simp only [PUTS, Act.put, List.setIfInBounds_toArray, List.set_cons_zero, List.set_cons_succ] at hK ⊢
                  go_simp
                  exact hK _ _ (Below.refl _ _) rfl hg
                refine Each.consA A hA (fun vs W hl => ?_) ?_
                · apply with31 hl
                  clear hl vs
                  intro v0 v1 v2 v3 v4 v5 v6 v7 v8 v9 v10 v11 v12 v13 v14 v15 v16 v17 v18 v19 v20 v21 v22 v23 v24 v25 v26 v27 v28 v29 v30 hg hd K hK
                  have d8 : v8 = Value.agg #[Value.string ⟨#[97]⟩, Value.int IntKind.i64 0, Value.int IntKind.u32 0] := hd 8 v8 (by kernel_rfl) rfl
                  subst d8
                  have d9 : v9 = Value.agg #[Value.string ⟨#[97]⟩, Value.int IntKind.i64 0, Value.int IntKind.u32 0] := hd 9 v9 (by kernel_rfl) rfl
                  subst d9
                  clear hd
                  rw [if_pos (by rw [PUTS]; kernel_rfl)]
                  simp only [PUTS, Act.put, List.setIfInBounds_toArray, List.set_cons_zero, List.set_cons_succ] at hK ⊢
                  go_simp
                  exact hK _ _ (below1 _ _) (mr_10 _) (hg.call (below1 _ _))
                refine Each.consA A hA (fun vs W hl => ?_) ?_
                · apply with31 hl
                  clear hl vs
                  intro v0 v1 v2 v3 v4 v5 v6 v7 v8 v9 v10 v11 v12 v13 v14 v15 v16 v17 v18 v19 v20 v21 v22 v23 v24 v25 v26 v27 v28 v29 v30 hg hd K hK
                  have d10 : MR 2 v10 W := hd 10 v10 (by kernel_rfl) rfl
                  clear hd
                  rw [if_pos (by rw [PUTS]; kernel_rfl)]
                  simp only [PUTS, Act.put, List.setIfInBounds_toArray, List.set_cons_zero, List.set_cons_succ] at hK ⊢
                  obtain ⟨g0, l0, rfl, h1, h2⟩ := d10
                  go_simp
                  exact hK _ _ (Below.refl _ _) ⟨g0, l0, rfl, h1, h2⟩ hg
                refine Each.consA A hA (fun vs W hl => ?_) ?_
                · apply with31 hl
                  clear hl vs
                  intro v0 v1 v2 v3 v4 v5 v6 v7 v8 v9 v10 v11 v12 v13 v14 v15 v16 v17 v18 v19 v20 v21 v22 v23 v24 v25 v26 v27 v28 v29 v30 hg hd K hK
                  clear hd
                  rw [if_pos (by rw [PUTS]; kernel_rfl)]
                  simp only [PUTS, Act.put, List.setIfInBounds_toArray, List.set_cons_zero, List.set_cons_succ] at hK ⊢
                  go_simp
                  exact hK _ _ (Below.refl _ _) rfl hg
                refine Each.consA A hA (fun vs W hl => ?_) ?_
                · apply with31 hl
                  clear hl vs
                  intro v0 v1 v2 v3 v4 v5 v6 v7 v8 v9 v10 v11 v12 v13 v14 v15 v16 v17 v18 v19 v20 v21 v22 v23 v24 v25 v26 v27 v28 v29 v30 hg hd K hK
                  have d12 : v12 = Value.agg #[Value.int IntKind.i64 8, Value.int IntKind.u32 0] := hd 12 v12 (by kernel_rfl) rfl
                  subst d12
                  clear hd
                  rw [if_pos (by rw [PUTS]; kernel_rfl)]
                  simp only [PUTS, Act.put, List.setIfInBounds_toArray, List.set_cons_zero, List.set_cons_succ] at hK ⊢
                  go_simp
                  exact hK _ _ (Below.refl _ _) rfl hg
                refine Each.consA A hA (fun vs W hl => ?_) ?_
                · apply with31 hl
                  clear hl vs
                  intro v0 v1 v2 v3 v4 v5 v6 v7 v8 v9 v10 v11 v12 v13 v14 v15 v16 v17 v18 v19 v20 v21 v22 v23 v24 v25 v26 v27 v28 v29 v30 hg hd K hK
                  have d13 : v13 = Value.agg #[Value.string ⟨#[97]⟩, Value.int IntKind.i64 8, Value.int IntKind.u32 0] := hd 13 v13 (by kernel_rfl) rfl
                  subst d13
                  clear hd
                  rw [if_pos (by rw [PUTS]; kernel_rfl)]
                  simp only [PUTS, Act.put, List.setIfInBounds_toArray, List.set_cons_zero, List.set_cons_succ] at hK ⊢
                  go_simp
                  exact hK _ _ (below1 _ _) (mr_14 _) (hg.call (below1 _ _))
                refine Each.consA A hA (fun vs W hl => ?_) ?_
                · apply with31 hl
                  clear hl vs
                  intro v0 v1 v2 v3 v4 v5 v6 v7 v8 v9 v10 v11 v12 v13 v14 v15 v16 v17 v18 v19 v20 v21 v22 v23 v24 v25 v26 v27 v28 v29 v30 hg hd K hK
                  have d14 : MR 1 v14 W := hd 14 v14 (by kernel_rfl) rfl
                  clear hd
                  rw [if_pos (by rw [PUTS]; kernel_rfl)]
                  simp only [PUTS, Act.put, List.setIfInBounds_toArray, List.set_cons_zero, List.set_cons_succ] at hK ⊢
                  obtain ⟨g0, l0, rfl, h1, h2⟩ := d14
                  go_simp
                  exact hK _ _ (Below.refl _ _) ⟨g0, l0, rfl, h1, h2⟩ hg
                refine Each.consA A hA (fun vs W hl => ?_) ?_
                · apply with31 hl
                  clear hl vs
                  intro v0 v1 v2 v3 v4 v5 v6 v7 v8 v9 v10 v11 v12 v13 v14 v15 v16 v17 v18 v19 v20 v21 v22 v23 v24 v25 v26 v27 v28 v29 v30 hg hd K hK
                  clear hd
                  rw [if_pos (by rw [PUTS]; kernel_rfl)]
                  simp only [PUTS, Act.put, List.setIfInBounds_toArray, List.set_cons_zero, List.set_cons_succ] at hK ⊢
                  go_simp
                  exact hK _ _ (Below.refl _ _) rfl hg
                refine Each.consA A hA (fun vs W hl => ?_) ?_
                · apply with31 hl
                  clear hl vs
                  intro v0 v1 v2 v3 v4 v5 v6 v7 v8 v9 v10 v11 v12 v13 v14 v15 v16 v17 v18 v19 v20 v21 v22 v23 v24 v25 v26 v27 v28 v29 v30 hg hd K hK
                  have d16 : v16 = Value.agg #[Value.string ⟨#[97]⟩, Value.int IntKind.i64 0, Value.int IntKind.u32 0, Value.int IntKind.i64 1, Value.int IntKind.i64 0] := hd 16 v16 (by kernel_rfl) rfl
                  subst d16
                  clear hd
                  rw [if_pos (by rw [PUTS]; kernel_rfl)]
                  simp only [PUTS, Act.put, List.setIfInBounds_toArray, List.set_cons_zero, List.set_cons_succ] at hK ⊢
                  go_simp
                  exact hK _ _ (below1 _ _) (mq_17 _) (hg.call (below1 _ _))
                refine Each.consA A hA (fun vs W hl => ?_) ?_
                · apply with31 hl
                  clear hl vs
                  intro v0 v1 v2 v3 v4 v5 v6 v7 v8 v9 v10 v11 v12 v13 v14 v15 v16 v17 v18 v19 v20 v21 v22 v23 v24 v25 v26 v27 v28 v29 v30 hg hd K hK
                  have d17 : MQ 1 v17 W := hd 17 v17 (by kernel_rfl) rfl
                  clear hd
                  rw [if_pos (by rw [PUTS]; kernel_rfl)]
                  simp only [PUTS, Act.put, List.setIfInBounds_toArray, List.set_cons_zero, List.set_cons_succ] at hK ⊢
                  obtain ⟨g0, l0, rfl, h1, h2⟩ := d17
                  go_simp
                  exact hK _ _ (Below.refl _ _) ⟨g0, l0, rfl, h1, h2⟩ hg
                refine Each.consA A hA (fun vs W hl => ?_) ?_
                · apply with31 hl
                  clear hl vs
                  intro v0 v1 v2 v3 v4 v5 v6 v7 v8 v9 v10 v11 v12 v13 v14 v15 v16 v17 v18 v19 v20 v21 v22 v23 v24 v25 v26 v27 v28 v29 v30 hg hd K hK
                  clear hd
                  rw [if_pos (by rw [PUTS]; kernel_rfl)]
                  simp only [PUTS, Act.put, List.setIfInBounds_toArray, List.set_cons_zero, List.set_cons_succ] at hK ⊢
                  go_simp
                  exact hK _ _ (Below.refl _ _) rfl hg
                refine Each.consA A hA (fun vs W hl => ?_) ?_
                · apply with31 hl
                  clear hl vs
                  intro v0 v1 v2 v3 v4 v5 v6 v7 v8 v9 v10 v11 v12 v13 v14 v15 v16 v17 v18 v19 v20 v21 v22 v23 v24 v25 v26 v27 v28 v29 v30 hg hd K hK
                  have d19 : v19 = Value.agg #[Value.string ⟨#[97]⟩, Value.int IntKind.i64 0, Value.int IntKind.u32 0, Value.int IntKind.i64 2, Value.int IntKind.i64 (-1)] := hd 19 v19 (by kernel_rfl) rfl
                  subst d19
                  clear hd
                  rw [if_pos (by rw [PUTS]; kernel_rfl)]
                  simp only [PUTS, Act.put, List.setIfInBounds_toArray, List.set_cons_zero, List.set_cons_succ] at hK ⊢
                  go_simp
                  exact hK _ _ (below1 _ _) (mq_20 _) (hg.call (below1 _ _))
                refine Each.consA A hA (fun vs W hl => ?_) ?_
                · apply with31 hl
                  clear hl vs
                  intro v0 v1 v2 v3 v4 v5 v6 v7 v8 v9 v10 v11 v12 v13 v14 v15 v16 v17 v18 v19 v20 v21 v22 v23 v24 v25 v26 v27 v28 v29 v30 hg hd K hK
                  have d20 : MQ 1 v20 W := hd 20 v20 (by kernel_rfl) rfl
                  clear hd
                  rw [if_pos (by rw [PUTS]; kernel_rfl)]
                  simp only [PUTS, Act.put, List.setIfInBounds_toArray, List.set_cons_zero, List.set_cons_succ] at hK ⊢
                  obtain ⟨g0, l0, rfl, h1, h2⟩ := d20
                  go_simp
                  exact hK _ _ (Below.refl _ _) ⟨g0, l0, rfl, h1, h2⟩ hg
                refine Each.consA A hA (fun vs W hl => ?_) ?_
                · apply with31 hl
                  clear hl vs
                  intro v0 v1 v2 v3 v4 v5 v6 v7 v8 v9 v10 v11 v12 v13 v14 v15 v16 v17 v18 v19 v20 v21 v22 v23 v24 v25 v26 v27 v28 v29 v30 hg hd K hK
                  clear hd
                  rw [if_pos (by rw [PUTS]; kernel_rfl)]
                  simp only [PUTS, Act.put, List.setIfInBounds_toArray, List.set_cons_zero, List.set_cons_succ] at hK ⊢
                  go_simp
                  exact hK _ _ (Below.refl _ _) rfl hg
                refine Each.consA A hA (fun vs W hl => ?_) ?_
                · apply with31 hl
                  clear hl vs
                  intro v0 v1 v2 v3 v4 v5 v6 v7 v8 v9 v10 v11 v12 v13 v14 v15 v16 v17 v18 v19 v20 v21 v22 v23 v24 v25 v26 v27 v28 v29 v30 hg hd K hK
                  clear hd
                  rw [if_pos (by rw [PUTS]; kernel_rfl)]
                  simp only [PUTS, Act.put, List.setIfInBounds_toArray, List.set_cons_zero, List.set_cons_succ] at hK ⊢
                  go_simp
                  exact hK _ _ (Below.refl _ _) rfl hg
                refine Each.consA A hA (fun vs W hl => ?_) ?_
                · apply with31 hl
                  clear hl vs
                  intro v0 v1 v2 v3 v4 v5 v6 v7 v8 v9 v10 v11 v12 v13 v14 v15 v16 v17 v18 v19 v20 v21 v22 v23 v24 v25 v26 v27 v28 v29 v30 hg hd K hK
                  have d22 : v22 = Value.agg #[Value.string ⟨#[97]⟩, Value.int IntKind.i64 0, Value.int IntKind.u32 0, Value.int IntKind.i64 2, Value.int IntKind.i64 0] := hd 22 v22 (by kernel_rfl) rfl
                  subst d22
                  have d23 : v23 = Value.agg #[Value.string ⟨#[97]⟩, Value.int IntKind.i64 0, Value.int IntKind.u32 0, Value.int IntKind.i64 2, Value.int IntKind.i64 0] := hd 23 v23 (by kernel_rfl) rfl
                  subst d23
                  clear hd
                  rw [if_pos (by rw [PUTS]; kernel_rfl)]
                  simp only [PUTS, Act.put, List.setIfInBounds_toArray, List.set_cons_zero, List.set_cons_succ] at hK ⊢
                  go_simp
                  exact hK _ _ (below1 _ _) (mq_24 _) (hg.call (below1 _ _))
                refine Each.consA A hA (fun vs W hl => ?_) ?_
                · apply with31 hl
                  clear hl vs
                  intro v0 v1 v2 v3 v4 v5 v6 v7 v8 v9 v10 v11 v12 v13 v14 v15 v16 v17 v18 v19 v20 v21 v22 v23 v24 v25 v26 v27 v28 v29 v30 hg hd K hK
                  have d24 : MQ 2 v24 W := hd 24 v24 (by kernel_rfl) rfl
                  clear hd
                  rw [if_pos (by rw [PUTS]; kernel_rfl)]
                  simp only [PUTS, Act.put, List.setIfInBounds_toArray, List.set_cons_zero, List.set_cons_succ] at hK ⊢
                  obtain ⟨g0, l0, rfl, h1, h2⟩ := d24
                  go_simp
                  exact hK _ _ (Below.refl _ _) ⟨g0, l0, rfl, h1, h2⟩ hg
                refine Each.consA A hA (fun vs W hl => ?_) ?_
                · apply with31 hl
                  clear hl vs
                  intro v0 v1 v2 v3 v4 v5 v6 v7 v8 v9 v10 v11 v12 v13 v14 v15 v16 v17 v18 v19 v20 v21 v22 v23 v24 v25 v26 v27 v28 v29 v30 hg hd K hK
                  clear hd
                  rw [if_pos (by rw [PUTS]; kernel_rfl)]
                  simp only [PUTS, Act.put, List.setIfInBounds_toArray, List.set_cons_zero, List.set_cons_succ] at hK ⊢
                  go_simp
                  exact hK _ _ (Below.refl _ _) rfl hg
                refine Each.consA A hA (fun vs W hl => ?_) ?_
                · apply with31 hl
                  clear hl vs
                  intro v0 v1 v2 v3 v4 v5 v6 v7 v8 v9 v10 v11 v12 v13 v14 v15 v16 v17 v18 v19 v20 v21 v22 v23 v24 v25 v26 v27 v28 v29 v30 hg hd K hK
                  have d26 : v26 = Value.agg #[Value.int IntKind.i64 (-1), Value.int IntKind.u32 0] := hd 26 v26 (by kernel_rfl) rfl
                  subst d26
                  clear hd
                  rw [if_pos (by rw [PUTS]; kernel_rfl)]
                  simp only [PUTS, Act.put, List.setIfInBounds_toArray, List.set_cons_zero, List.set_cons_succ] at hK ⊢
                  go_simp
                  exact hK _ _ (Below.refl _ _) rfl hg
                refine Each.consA A hA (fun vs W hl => ?_) ?_
                · apply with31 hl
                  clear hl vs
                  intro v0 v1 v2 v3 v4 v5 v6 v7 v8 v9 v10 v11 v12 v13 v14 v15 v16 v17 v18 v19 v20 v21 v22 v23 v24 v25 v26 v27 v28 v29 v30 hg hd K hK
                  have d27 : v27 = Value.agg #[Value.string ⟨#[97]⟩, Value.int IntKind.i64 (-1), Value.int IntKind.u32 0, Value.int IntKind.i64 2, Value.int IntKind.i64 0] := hd 27 v27 (by kernel_rfl) rfl
                  subst d27
                  clear hd
                  rw [if_pos (by rw [PUTS]; kernel_rfl)]
                  simp only [PUTS, Act.put, List.setIfInBounds_toArray, List.set_cons_zero, List.set_cons_succ] at hK ⊢
                  go_simp
                  exact hK _ _ (below1 _ _) (mq_28 _) (hg.call (below1 _ _))
                refine Each.consA A hA (fun vs W hl => ?_) ?_
                · apply with31 hl
                  clear hl vs
                  intro v0 v1 v2 v3 v4 v5 v6 v7 v8 v9 v10 v11 v12 v13 v14 v15 v16 v17 v18 v19 v20 v21 v22 v23 v24 v25 v26 v27 v28 v29 v30 hg hd K hK
                  have d28 : MQ 1 v28 W := hd 28 v28 (by kernel_rfl) rfl
                  clear hd
                  rw [if_pos (by rw [PUTS]; kernel_rfl)]
                  simp only [PUTS, Act.put, List.setIfInBounds_toArray, List.set_cons_zero, List.set_cons_succ] at hK ⊢
                  obtain ⟨g0, l0, rfl, h1, h2⟩ := d28
                  go_simp
                  exact hK _ _ (Below.refl _ _) ⟨g0, l0, rfl, h1, h2⟩ hg
                refine Each.consA A hA (fun vs W hl => ?_) ?_
                · apply with31 hl
                  clear hl vs
                  intro v0 v1 v2 v3 v4 v5 v6 v7 v8 v9 v10 v11 v12 v13 v14 v15 v16 v17 v18 v19 v20 v21 v22 v23 v24 v25 v26 v27 v28 v29 v30 hg hd K hK
                  have d1 : OR 65 v1 W := hd 1 v1 (by kernel_rfl) rfl
                  have d3 : OQ 17 v3 W := hd 3 v3 (by kernel_rfl) rfl
                  have d7 : OR 2 v7 W := hd 7 v7 (by kernel_rfl) rfl
                  have d11 : OR 2 v11 W := hd 11 v11 (by kernel_rfl) rfl
                  have d15 : OR 1 v15 W := hd 15 v15 (by kernel_rfl) rfl
                  have d18 : OQ 1 v18 W := hd 18 v18 (by kernel_rfl) rfl
                  have d21 : OQ 1 v21 W := hd 21 v21 (by kernel_rfl) rfl
                  have d25 : OQ 2 v25 W := hd 25 v25 (by kernel_rfl) rfl
                  have d29 : OQ 1 v29 W := hd 29 v29 (by kernel_rfl) rfl
                  clear hd
                  rw [if_pos (by rw [PUTS]; kernel_rfl)]
                  simp only [PUTS, Act.put, List.setIfInBounds_toArray, List.set_cons_zero, List.set_cons_succ] at hK ⊢
                  obtain ⟨g1, l1, rfl, h1, h2⟩ := d1
                  have o1 := hd (OR.two ⟨g1, l1, rfl, h1, h2⟩)
                  clear h1 h2
                  obtain ⟨g3, l3, rfl, h1, h2⟩ := d3
                  have o3 := hd (OQ.two ⟨g3, l3, rfl, h1, h2⟩)
                  clear h1 h2
                  obtain ⟨g7, l7, rfl, h1, h2⟩ := d7
                  have o7 := hd (OR.two ⟨g7, l7, rfl, h1, h2⟩)
                  clear h1 h2
                  obtain ⟨g11, l11, rfl, h1, h2⟩ := d11
                  have o11 := hd (OR.two ⟨g11, l11, rfl, h1, h2⟩)
                  clear h1 h2
                  obtain ⟨g15, l15, rfl, h1, h2⟩ := d15
                  have o15 := hd (OR.two ⟨g15, l15, rfl, h1, h2⟩)
                  clear h1 h2
                  obtain ⟨g18, l18, rfl, h1, h2⟩ := d18
                  have o18 := hd (OQ.two ⟨g18, l18, rfl, h1, h2⟩)
                  clear h1 h2
                  obtain ⟨g21, l21, rfl, h1, h2⟩ := d21
                  have o21 := hd (OQ.two ⟨g21, l21, rfl, h1, h2⟩)
                  clear h1 h2
                  obtain ⟨g25, l25, rfl, h1, h2⟩ := d25
                  have o25 := hd (OQ.two ⟨g25, l25, rfl, h1, h2⟩)
                  clear h1 h2
                  obtain ⟨g29, l29, rfl, h1, h2⟩ := d29
                  have o29 := hd (OQ.two ⟨g29, l29, rfl, h1, h2⟩)
                  clear h1 h2
                  go_simp
                  exact hK _ _ (below1 _ _) (od_new _ _ _ _ _ _ _ _ _ _ _ _ _ _ _ _ _ _ _ o1.out o3.out o7.out o11.out o15.out o18.out o21.out o25.out o29.out) (hg.call (below1 _ _))
                exact Each.nil
              · intro vs W hl
                apply with31 hl
                clear hl vs
                intro v0 v1 v2 v3 v4 v5 v6 v7 v8 v9 v10 v11 v12 v13 v14 v15 v16 v17 v18 v19 v20 v21 v22 v23 v24 v25 v26 v27 v28 v29 v30 hg hall
                have d0 : MR 65 v0 W := hall 0 v0 rfl
                have d1 : OR 65 v1 W := hall 1 v1 rfl
                have d2 : MQ 17 v2 W := hall 2 v2 rfl
                have d3 : OQ 17 v3 W := hall 3 v3 rfl
                have d4 : v4 = Value.agg #[Value.string ⟨#[98]⟩, Value.int IntKind.i64 0, Value.int IntKind.u32 0] := hall 4 v4 rfl
                subst d4
                have d5 : v5 = Value.agg #[Value.string ⟨#[97]⟩, Value.int IntKind.i64 0, Value.int IntKind.u32 0] := hall 5 v5 rfl
                subst d5
                have d6 : MR 2 v6 W := hall 6 v6 rfl
                have d7 : OR 2 v7 W := hall 7 v7 rfl
                have d8 : v8 = Value.agg #[Value.string ⟨#[97]⟩, Value.int IntKind.i64 0, Value.int IntKind.u32 0] := hall 8 v8 rfl
                subst d8
                have d9 : v9 = Value.agg #[Value.string ⟨#[97]⟩, Value.int IntKind.i64 0, Value.int IntKind.u32 0] := hall 9 v9 rfl
                subst d9
                have d10 : MR 2 v10 W := hall 10 v10 rfl
                have d11 : OR 2 v11 W := hall 11 v11 rfl
                have d12 : v12 = Value.agg #[Value.int IntKind.i64 8, Value.int IntKind.u32 0] := hall 12 v12 rfl
                subst d12
                have d13 : v13 = Value.agg #[Value.string ⟨#[97]⟩, Value.int IntKind.i64 8, Value.int IntKind.u32 0] := hall 13 v13 rfl
                subst d13
                have d14 : MR 1 v14 W := hall 14 v14 rfl
                have d15 : OR 1 v15 W := hall 15 v15 rfl
                have d16 : v16 = Value.agg #[Value.string ⟨#[97]⟩, Value.int IntKind.i64 0, Value.int IntKind.u32 0, Value.int IntKind.i64 1, Value.int IntKind.i64 0] := hall 16 v16 rfl
                subst d16
                have d17 : MQ 1 v17 W := hall 17 v17 rfl
                have d18 : OQ 1 v18 W := hall 18 v18 rfl
                have d19 : v19 = Value.agg #[Value.string ⟨#[97]⟩, Value.int IntKind.i64 0, Value.int IntKind.u32 0, Value.int IntKind.i64 2, Value.int IntKind.i64 (-1)] := hall 19 v19 rfl
                subst d19
                have d20 : MQ 1 v20 W := hall 20 v20 rfl
                have d21 : OQ 1 v21 W := hall 21 v21 rfl
                have d22 : v22 = Value.agg #[Value.string ⟨#[97]⟩, Value.int IntKind.i64 0, Value.int IntKind.u32 0, Value.int IntKind.i64 2, Value.int IntKind.i64 0] := hall 22 v22 rfl
                subst d22
                have d23 : v23 = Value.agg #[Value.string ⟨#[97]⟩, Value.int IntKind.i64 0, Value.int IntKind.u32 0, Value.int IntKind.i64 2, Value.int IntKind.i64 0] := hall 23 v23 rfl
                subst d23
                have d24 : MQ 2 v24 W := hall 24 v24 rfl
                have d25 : OQ 2 v25 W := hall 25 v25 rfl
                have d26 : v26 = Value.agg #[Value.int IntKind.i64 (-1), Value.int IntKind.u32 0] := hall 26 v26 rfl
                subst d26
                have d27 : v27 = Value.agg #[Value.string ⟨#[97]⟩, Value.int IntKind.i64 (-1), Value.int IntKind.u32 0, Value.int IntKind.i64 2, Value.int IntKind.i64 0] := hall 27 v27 rfl
                subst d27
                have d28 : MQ 1 v28 W := hall 28 v28 rfl
                have d29 : OQ 1 v29 W := hall 29 v29 rfl
                have d30 : OdV v30 W := hall 30 v30 rfl
                clear hall
                simp only [puts, Act.put, List.setIfInBounds_toArray, List.set_cons_zero, List.set_cons_succ, List.take_succ_cons, List.take_zero, List.drop_succ_cons, List.drop_zero]
                obtain ⟨b, rfl, hod⟩ := d30
                have HOD := hd hod
                have HPS' := hd hg
                clear hod hg HPS d0 d1 d2 d3 d6 d7 d10 d11 d14 d15 d17 d18 d20 d21 d24 d25 d28 d29
                have HPS := HPS'
                clear HPS'
                go_wp2_with fail
                go_loopw [22] (fun i wr => ∃ k : Nat, k ≤ 9 ∧ i = .int .i64 (k : Int) ∧ PS w pb g off c y d wr ∧ Od wr b) (fun i _ => 9 - (intOf i).toNat)
                case atStart => exact ⟨0, Nat.zero_le _, rfl, HPS.out, HOD.out⟩
                case round =>
                  obtain ⟨k, hk, rfl, hp, ho⟩ := hrel
                  clear HPS HOD
                  have HPS := hd hp
                  have HOD := hd ho
                  clear hp ho
                  by_cases hlt : k < 9
                  · have hlt' : (k : Int) < 9 := by omega
                    obtain ⟨u, v, rs, qs, hr, hq, hf, c0, c1⟩ := HOD.out.2 k hlt
                    obtain ⟨x0, cr, rfl⟩ := hr.form
                    obtain ⟨y0, cq, rfl⟩ := hq.form
                    obtain ⟨nr, hnr⟩ : ∃ n, rs.length = n := ⟨_, rfl⟩
                    obtain ⟨nq, hnq⟩ : ∃ n, qs.length = n := ⟨_, rfl⟩
                    rw [hnr] at hr c0
                    rw [hnq] at hq c1
                    rw [Nat.mul_comm] at c0 c1
                    have HR := hd hr
                    have HQ := hd hq
                    have HF := hd hf
                    have HLT := hd hlt
                    have C0 := hd c0
                    have C1 := hd c1
                    clear hr hq hf hnr hnq hlt
                    go_wp2_with fail
                    refine (write_bad HR.out HQ.out HF.out).mono ?_
                    rintro e wg ⟨rfl, hk1⟩
                    have HP1 := hd (HPS.out.call hk1)
                    have HO1 := hd (HOD.out.keep hk1)
                    have HR1 := hd (HR.out.keep hk1)
                    have HQ1 := hd (HQ.out.keep hk1)
                    clear c0 c1
                    have c0 := (below_cell hk1 (p := ⟨b, k * 2, none⟩) HOD.out.1).trans C0.out
                    have c1 := (below_cell hk1 (p := ⟨b, k * 2 + 1, none⟩) HOD.out.1).trans C1.out
                    clear hk1 C0 C1 HPS HOD HR HQ
                    go_wp2_with fail
                    refine (check_bad HR1.out HQ1.out HF.out).mono ?_
                    rintro e wh ⟨rfl, hk1⟩
                    have HP2 := hd (HP1.out.call hk1)
                    have HO2 := hd (HO1.out.keep hk1)
                    clear hk1 HP1 HO1 HR1 HQ1 HF c0 c1
                    go_wp2_with fail
                    go_roundw
                    case rel => exact ⟨k + 1, by have := HLT.out; omega, by go_num, HP2.out, HO2.out⟩
                    case measure => simp [intOf]; omega
                  · have hn : k = 9 := by omega
                    subst hn
                    rw [show ((9 : Nat) : Int) = 9 from rfl]
                    clear hk hlt HOD
                    go_wp2_with fail
                    refine (write_empty _ (HP.out _ HPS.out.bel).2).mono ?_
                    rintro e wg ⟨rfl, hk1⟩
                    have HP1 := hd (HPS.out.call hk1)
                    clear hk1 HPS
                    go_wp2_with fail
                    refine (works_true _ (HP.out _ HP1.out.bel).1 (HP.out _ HP1.out.bel).2).mono ?_
                    rintro e wh ⟨rfl, hk1⟩
                    have HPS := hd (HP1.out.call hk1)
                    clear hk1 HP1
                    have c0 := HPS.out.blk.cell 0
                    have c1 := HPS.out.blk.cell 1
                    simp at c0 c1
                    have c2 := HPS.out.full.2.2.1
                    have c3 := HPS.out.full.2.2.2
                    have hc := HPS.out.full.2.1
                    go_wp2_with fail
                    go_ret
                    exact VEnd.mk HPS.out.bel
end Go.Proofs.YtcigbfjmnhogiabGreatDoor
