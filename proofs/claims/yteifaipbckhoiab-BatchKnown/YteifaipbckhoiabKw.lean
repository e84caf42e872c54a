/- BatchKnown: the law's walk. -/
import Derived.Test.YteifaipbckhoiabKa
import Derived.Test.YteifaipbckhoiabVz
import Derived.Deep.Cut
namespace Go.Proofs.Yteifaipbckhoiab
open Go.RowKit
set_option linter.unusedVariables false

theorem chw_wf : ∀ q ∈ [(chS, Value.slice none 0 0)], WfS q.1 := fun q hq => by
  obtain rfl := List.mem_singleton.1 hq
  intro a ha
  cases ha
theorem El.oneA {w : World} {g : Nat} {a : AttrD} (h : Bk w g 44 (encA a).toArray) : El encA 6 w (.slice (some ⟨g, 0, none⟩) 1 1) [a] := by
  refine Or.inr ⟨g, 0, 1, rfl, by simp, by simp, h.lt, fun j hj i u hu => ?_⟩
  obtain rfl : j = 0 := by simpa using hj
  rw [h.cell, List.getElem?_toArray]
  simpa using hu

set_option maxRecDepth 100000 in
set_option maxHeartbeats 32000000 in
theorem known_walk (w : World) : Calls Try.prog 4 #[] w fun e w' => VEnd w (.bool true) e w' := by
  go_enter Try.func4, Try.ntmps4
  go_wp2_with fail
  go_loopw [1, 2, 3, 4, 5] (fun i _ _ _ _ wr => ∃ k : Nat, k ≤ 20 ∧ i = .int .i64 (k : Int) ∧ Below w.heap.size w wr) (fun i _ _ _ _ _ => 20 - (intOf i).toNat)
  case atStart => exact ⟨0, Nat.zero_le _, rfl, Below.refl _ _⟩
  case round =>
    obtain ⟨k, hk, rfl, hb⟩ := hrel
    have HB := hd hb
    clear hb
    by_cases hlt : k < 20
    · have hlt' : (k : Int) < 20 := by omega
      have HK := hd hlt
      clear hk
      go_wp2_with fail
      refine (chapter_is wr).mono ?_
      rintro e w2 ⟨b, rfl, ho, hk⟩
      have HB2 := hd (below_below HB.out hk)
      have HWR := hd HB.out.size
      clear HB
      have NB := below1 w2 (Obj.cells #[Value.int IntKind.i64 1, Value.int IntKind.i64 2, Value.slice (some ⟨b, 0, none⟩) 1 1] 24)
      have A := hd (Bk.new w2 24 #[Value.int IntKind.i64 1, Value.int IntKind.i64 2, Value.slice (some ⟨b, 0, none⟩) 1 1])
      have O := hd ((ho.lower HWR.out).keep NB)
      have HB3 := hd (below_below HB2.out NB)
      have HGB := hd HB2.out.size
      clear NB ho hk HB2 HWR
      go_upto_region 5 with fail
      generalize w2.alloc (Obj.cells #[Value.int IntKind.i64 1, Value.int IntKind.i64 2, Value.slice (some ⟨b, 0, none⟩) 1 1] 24) = w3 at *
      generalize w2.heap.size = gb at *
      have HNE := hd ((O.out.ne A.out (by decide) (by decide)).1 b rfl)
      have HBB := hd (O.out.own.2.lt b rfl)
      have a2 := A.out.cell 2
      simp at a2
      go_upto_region 6 with fail
      clear a2
      obtain rfl | rfl | rfl | rfl | rfl | rfl | rfl | rfl | rfl | rfl | rfl | rfl | rfl | rfl | rfl | rfl | rfl | rfl | rfl | rfl : k = 0 ∨ k = 1 ∨ k = 2 ∨ k = 3 ∨ k = 4 ∨ k = 5 ∨ k = 6 ∨ k = 7 ∨ k = 8 ∨ k = 9 ∨ k = 10 ∨ k = 11 ∨ k = 12 ∨ k = 13 ∨ k = 14 ∨ k = 15 ∨ k = 16 ∨ k = 17 ∨ k = 18 ∨ k = 19 := by omega
      · rw [show ((0 : Nat) : Int) = 0 from rfl]
        have a := A.out.cell 0
        have fa := A.out.fz 0
        simp at a
        have ks := kp_set1 w3 gb 0 (.int .i64 0)
        have hne := O.out.ne A.out (by decide) (by decide)
        have AW : Hid (Bk (w3.setCell ⟨gb, 0, none⟩ (.int .i64 0)) gb 24 #[Value.int IntKind.i64 0, Value.int IntKind.i64 2, Value.slice (some ⟨b, 0, none⟩) 1 1]) := hd (A.out.set 0 (.int .i64 0))
        have O4 := O.out.kpx ks hne.1 hne.2
        have BW := hd (HB3.out.trans (ks.below w.heap.size HB3.out.size (fun j hj e => by have := HGB.out; omega)))
        go_upto_region 47 with fail
        clear a fa ks hne
        generalize w3.setCell ⟨gb, 0, none⟩ (.int .i64 0) = w4 at *
        obtain ⟨qsk, hqk⟩ : ∃ q : List SpanV, [(chS, Value.slice none 0 0)] = q := ⟨_, rfl⟩
        have SW : Hid (Sps w4 (Value.slice (some ⟨b, 0, none⟩) 1 1) qsk) := hd (by rw [← hqk]; exact O4.sps)
        have HQK : Hid ((⟨0, 2, spd qsk⟩ : BatchD) = badBt 0) := hd (by rw [← hqk]; rfl)
        have HWF : Hid (∀ q ∈ qsk, WfS q.1) := hd (by rw [← hqk]; exact chw_wf)
        clear hqk O4 A O HB3
        have a0 := AW.out.cell 0
        have a1 := AW.out.cell 1
        have a2 := AW.out.cell 2
        simp at a0 a1 a2
        have hok : okB ⟨0, 2, spd qsk⟩ = false := by rw [HQK.out]; exact badBt_not 0 (by decide)
        have HBT := bytesB_any (ag := 0) (sq := 2) SW.out HWF.out
        rw [hok] at HBT
        simp only [Bool.false_eq_true, if_false] at HBT
        go_wp2_with fail
        refine HBT.mono ?_
        rintro e w8 ⟨a8, n8, p8, rfl, hn8, _, hk⟩
        obtain rfl : n8 = 0 := hn8.symm
        have AW8 := hd (AW.out.keep hk)
        have SW8 := hd (SW.out.keep hk)
        have BW8 := hd (below_below BW.out hk)
        clear hk HBT hn8 a0 a1 a2 AW SW BW
        have a0 := AW8.out.cell 0
        have a1 := AW8.out.cell 1
        have a2 := AW8.out.cell 2
        simp at a0 a1 a2
        go_wp2_with fail
        have HC := checkB_any (ag := 0) (sq := 2) SW8.out HWF.out
        rw [hok] at HC
        simp only [Bool.false_eq_true, if_false] at HC
        refine HC.mono ?_
        rintro e w9 ⟨rfl, hk⟩
        have BW9 := hd (below_below BW8.out hk)
        clear hk HC a0 a1 a2 hok
        go_wp2_with fail
        go_roundw
        case rel => exact ⟨1, by decide, rfl, BW9.out⟩
        case measure => decide
      · rw [show ((1 : Nat) : Int) = 1 from rfl]
        have a := A.out.cell 0
        have fa := A.out.fz 0
        simp at a
        have ks := kp_set1 w3 gb 0 (.int .i64 17)
        have hne := O.out.ne A.out (by decide) (by decide)
        have AW : Hid (Bk (w3.setCell ⟨gb, 0, none⟩ (.int .i64 17)) gb 24 #[Value.int IntKind.i64 17, Value.int IntKind.i64 2, Value.slice (some ⟨b, 0, none⟩) 1 1]) := hd (A.out.set 0 (.int .i64 17))
        have O4 := O.out.kpx ks hne.1 hne.2
        have BW := hd (HB3.out.trans (ks.below w.heap.size HB3.out.size (fun j hj e => by have := HGB.out; omega)))
        go_upto_region 47 with fail
        clear a fa ks hne
        generalize w3.setCell ⟨gb, 0, none⟩ (.int .i64 17) = w4 at *
        obtain ⟨qsk, hqk⟩ : ∃ q : List SpanV, [(chS, Value.slice none 0 0)] = q := ⟨_, rfl⟩
        have SW : Hid (Sps w4 (Value.slice (some ⟨b, 0, none⟩) 1 1) qsk) := hd (by rw [← hqk]; exact O4.sps)
        have HQK : Hid ((⟨17, 2, spd qsk⟩ : BatchD) = badBt 1) := hd (by rw [← hqk]; rfl)
        have HWF : Hid (∀ q ∈ qsk, WfS q.1) := hd (by rw [← hqk]; exact chw_wf)
        clear hqk O4 A O HB3
        have a0 := AW.out.cell 0
        have a1 := AW.out.cell 1
        have a2 := AW.out.cell 2
        simp at a0 a1 a2
        have hok : okB ⟨17, 2, spd qsk⟩ = false := by rw [HQK.out]; exact badBt_not 1 (by decide)
        have HBT := bytesB_any (ag := 17) (sq := 2) SW.out HWF.out
        rw [hok] at HBT
        simp only [Bool.false_eq_true, if_false] at HBT
        go_wp2_with fail
        refine HBT.mono ?_
        rintro e w8 ⟨a8, n8, p8, rfl, hn8, _, hk⟩
        obtain rfl : n8 = 0 := hn8.symm
        have AW8 := hd (AW.out.keep hk)
        have SW8 := hd (SW.out.keep hk)
        have BW8 := hd (below_below BW.out hk)
        clear hk HBT hn8 a0 a1 a2 AW SW BW
        have a0 := AW8.out.cell 0
        have a1 := AW8.out.cell 1
        have a2 := AW8.out.cell 2
        simp at a0 a1 a2
        go_wp2_with fail
        have HC := checkB_any (ag := 17) (sq := 2) SW8.out HWF.out
        rw [hok] at HC
        simp only [Bool.false_eq_true, if_false] at HC
        refine HC.mono ?_
        rintro e w9 ⟨rfl, hk⟩
        have BW9 := hd (below_below BW8.out hk)
        clear hk HC a0 a1 a2 hok
        go_wp2_with fail
        go_roundw
        case rel => exact ⟨2, by decide, rfl, BW9.out⟩
        case measure => decide
      · rw [show ((2 : Nat) : Int) = 2 from rfl]
        have a := A.out.cell 1
        have fa := A.out.fz 1
        simp at a
        have ks := kp_set1 w3 gb 1 (.int .i64 0)
        have hne := O.out.ne A.out (by decide) (by decide)
        have AW : Hid (Bk (w3.setCell ⟨gb, 1, none⟩ (.int .i64 0)) gb 24 #[Value.int IntKind.i64 1, Value.int IntKind.i64 0, Value.slice (some ⟨b, 0, none⟩) 1 1]) := hd (A.out.set 1 (.int .i64 0))
        have O4 := O.out.kpx ks hne.1 hne.2
        have BW := hd (HB3.out.trans (ks.below w.heap.size HB3.out.size (fun j hj e => by have := HGB.out; omega)))
        go_upto_region 47 with fail
        clear a fa ks hne
        generalize w3.setCell ⟨gb, 1, none⟩ (.int .i64 0) = w4 at *
        obtain ⟨qsk, hqk⟩ : ∃ q : List SpanV, [(chS, Value.slice none 0 0)] = q := ⟨_, rfl⟩
        have SW : Hid (Sps w4 (Value.slice (some ⟨b, 0, none⟩) 1 1) qsk) := hd (by rw [← hqk]; exact O4.sps)
        have HQK : Hid ((⟨1, 0, spd qsk⟩ : BatchD) = badBt 2) := hd (by rw [← hqk]; rfl)
        have HWF : Hid (∀ q ∈ qsk, WfS q.1) := hd (by rw [← hqk]; exact chw_wf)
        clear hqk O4 A O HB3
        have a0 := AW.out.cell 0
        have a1 := AW.out.cell 1
        have a2 := AW.out.cell 2
        simp at a0 a1 a2
        have hok : okB ⟨1, 0, spd qsk⟩ = false := by rw [HQK.out]; exact badBt_not 2 (by decide)
        have HBT := bytesB_any (ag := 1) (sq := 0) SW.out HWF.out
        rw [hok] at HBT
        simp only [Bool.false_eq_true, if_false] at HBT
        go_wp2_with fail
        refine HBT.mono ?_
        rintro e w8 ⟨a8, n8, p8, rfl, hn8, _, hk⟩
        obtain rfl : n8 = 0 := hn8.symm
        have AW8 := hd (AW.out.keep hk)
        have SW8 := hd (SW.out.keep hk)
        have BW8 := hd (below_below BW.out hk)
        clear hk HBT hn8 a0 a1 a2 AW SW BW
        have a0 := AW8.out.cell 0
        have a1 := AW8.out.cell 1
        have a2 := AW8.out.cell 2
        simp at a0 a1 a2
        go_wp2_with fail
        have HC := checkB_any (ag := 1) (sq := 0) SW8.out HWF.out
        rw [hok] at HC
        simp only [Bool.false_eq_true, if_false] at HC
        refine HC.mono ?_
        rintro e w9 ⟨rfl, hk⟩
        have BW9 := hd (below_below BW8.out hk)
        clear hk HC a0 a1 a2 hok
        go_wp2_with fail
        go_roundw
        case rel => exact ⟨3, by decide, rfl, BW9.out⟩
        case measure => decide
      · rw [show ((3 : Nat) : Int) = 3 from rfl]
        have a := A.out.cell 1
        have fa := A.out.fz 1
        simp at a
        have ks := kp_set1 w3 gb 1 (.int .i64 9007199254740992)
        have hne := O.out.ne A.out (by decide) (by decide)
        have AW : Hid (Bk (w3.setCell ⟨gb, 1, none⟩ (.int .i64 9007199254740992)) gb 24 #[Value.int IntKind.i64 1, Value.int IntKind.i64 9007199254740992, Value.slice (some ⟨b, 0, none⟩) 1 1]) := hd (A.out.set 1 (.int .i64 9007199254740992))
        have O4 := O.out.kpx ks hne.1 hne.2
        have BW := hd (HB3.out.trans (ks.below w.heap.size HB3.out.size (fun j hj e => by have := HGB.out; omega)))
        go_upto_region 47 with fail
        clear a fa ks hne
        generalize w3.setCell ⟨gb, 1, none⟩ (.int .i64 9007199254740992) = w4 at *
        obtain ⟨qsk, hqk⟩ : ∃ q : List SpanV, [(chS, Value.slice none 0 0)] = q := ⟨_, rfl⟩
        have SW : Hid (Sps w4 (Value.slice (some ⟨b, 0, none⟩) 1 1) qsk) := hd (by rw [← hqk]; exact O4.sps)
        have HQK : Hid ((⟨1, 9007199254740992, spd qsk⟩ : BatchD) = badBt 3) := hd (by rw [← hqk]; rfl)
        have HWF : Hid (∀ q ∈ qsk, WfS q.1) := hd (by rw [← hqk]; exact chw_wf)
        clear hqk O4 A O HB3
        have a0 := AW.out.cell 0
        have a1 := AW.out.cell 1
        have a2 := AW.out.cell 2
        simp at a0 a1 a2
        have hok : okB ⟨1, 9007199254740992, spd qsk⟩ = false := by rw [HQK.out]; exact badBt_not 3 (by decide)
        have HBT := bytesB_any (ag := 1) (sq := 9007199254740992) SW.out HWF.out
        rw [hok] at HBT
        simp only [Bool.false_eq_true, if_false] at HBT
        go_wp2_with fail
        refine HBT.mono ?_
        rintro e w8 ⟨a8, n8, p8, rfl, hn8, _, hk⟩
        obtain rfl : n8 = 0 := hn8.symm
        have AW8 := hd (AW.out.keep hk)
        have SW8 := hd (SW.out.keep hk)
        have BW8 := hd (below_below BW.out hk)
        clear hk HBT hn8 a0 a1 a2 AW SW BW
        have a0 := AW8.out.cell 0
        have a1 := AW8.out.cell 1
        have a2 := AW8.out.cell 2
        simp at a0 a1 a2
        go_wp2_with fail
        have HC := checkB_any (ag := 1) (sq := 9007199254740992) SW8.out HWF.out
        rw [hok] at HC
        simp only [Bool.false_eq_true, if_false] at HC
        refine HC.mono ?_
        rintro e w9 ⟨rfl, hk⟩
        have BW9 := hd (below_below BW8.out hk)
        clear hk HC a0 a1 a2 hok
        go_wp2_with fail
        go_roundw
        case rel => exact ⟨4, by decide, rfl, BW9.out⟩
        case measure => decide
      · rw [show ((4 : Nat) : Int) = 4 from rfl]
        have a := A.out.cell 2
        have fa := A.out.fz 2
        simp at a
        have ks := kp_set1 w3 gb 2 (.slice none 0 0)
        have hne := O.out.ne A.out (by decide) (by decide)
        have AW : Hid (Bk (w3.setCell ⟨gb, 2, none⟩ (.slice none 0 0)) gb 24 #[Value.int IntKind.i64 1, Value.int IntKind.i64 2, Value.slice none 0 0]) := hd (A.out.set 2 (.slice none 0 0))
        have O4 := O.out.kpx ks hne.1 hne.2
        have BW := hd (HB3.out.trans (ks.below w.heap.size HB3.out.size (fun j hj e => by have := HGB.out; omega)))
        go_upto_region 47 with fail
        clear a fa ks hne
        generalize w3.setCell ⟨gb, 2, none⟩ (.slice none 0 0) = w4 at *
        obtain ⟨qsk, hqk⟩ : ∃ q : List SpanV, [] = q := ⟨_, rfl⟩
        have SW : Hid (Sps w4 (Value.slice none 0 0) qsk) := hd (by rw [← hqk]; exact ⟨Or.inl ⟨rfl, none, 0, rfl⟩, fun q hq => by cases hq⟩)
        have HQK : Hid ((⟨1, 2, spd qsk⟩ : BatchD) = badBt 4) := hd (by rw [← hqk]; rfl)
        have HWF : Hid (∀ q ∈ qsk, WfS q.1) := hd (by rw [← hqk]; intro q hq; cases hq)
        clear hqk O4 A O HB3
        have a0 := AW.out.cell 0
        have a1 := AW.out.cell 1
        have a2 := AW.out.cell 2
        simp at a0 a1 a2
        have hok : okB ⟨1, 2, spd qsk⟩ = false := by rw [HQK.out]; exact badBt_not 4 (by decide)
        have HBT := bytesB_any (ag := 1) (sq := 2) SW.out HWF.out
        rw [hok] at HBT
        simp only [Bool.false_eq_true, if_false] at HBT
        go_wp2_with fail
        refine HBT.mono ?_
        rintro e w8 ⟨a8, n8, p8, rfl, hn8, _, hk⟩
        obtain rfl : n8 = 0 := hn8.symm
        have AW8 := hd (AW.out.keep hk)
        have SW8 := hd (SW.out.keep hk)
        have BW8 := hd (below_below BW.out hk)
        clear hk HBT hn8 a0 a1 a2 AW SW BW
        have a0 := AW8.out.cell 0
        have a1 := AW8.out.cell 1
        have a2 := AW8.out.cell 2
        simp at a0 a1 a2
        go_wp2_with fail
        have HC := checkB_any (ag := 1) (sq := 2) SW8.out HWF.out
        rw [hok] at HC
        simp only [Bool.false_eq_true, if_false] at HC
        refine HC.mono ?_
        rintro e w9 ⟨rfl, hk⟩
        have BW9 := hd (below_below BW8.out hk)
        clear hk HC a0 a1 a2 hok
        go_wp2_with fail
        go_roundw
        case rel => exact ⟨5, by decide, rfl, BW9.out⟩
        case measure => decide
      · rw [show ((5 : Nat) : Int) = 5 from rfl]
        have a2 := A.out.cell 2
        have f2 := A.out.fz 2
        simp at a2
        obtain ⟨c5, w5, hr5, hs5, hk5, hst⟩ := app16 (b := b) (w := w3) (s := chS) (fun f u he => one_cell O.out f he) rfl 22
        obtain ⟨x5, p5, rfl⟩ := hs5.el.form
        have HR5 := hd hr5
        have A5 := A.out.keep hk5
        have a5 := A5.cell 2
        have f5 := A5.fz 2
        simp at a5
        have ks := kp_set1 w5 gb 2 (Value.slice x5 17 p5)
        have AW : Hid (Bk (w5.setCell ⟨gb, 2, none⟩ (Value.slice x5 17 p5)) gb 24 #[Value.int IntKind.i64 1, Value.int IntKind.i64 2, Value.slice x5 17 p5]) := hd (A5.set 2 _)
        have SW : Hid (Sps (w5.setCell ⟨gb, 2, none⟩ (Value.slice x5 17 p5)) (Value.slice x5 17 p5) ((chS, Value.slice none 0 0) :: List.replicate 16 (zS, Value.slice none 0 0))) := hd (hst gb _ (by have := A.out.lt; omega) ks)
        have BW := hd ((below_below HB3.out hk5).trans (ks.below w.heap.size (below_below HB3.out hk5).size (fun j hj e => by have := HGB.out; omega)))
        go_upto_region 47 with (at_builtin; refine wpList_append_run _ rfl _ _ _ _ rfl _ _ rfl rfl _ w5 HR5.out ?_)
        clear a2 f2 a5 f5 ks hr5 hs5 hk5 hst A5
        generalize w5.setCell ⟨gb, 2, none⟩ (Value.slice x5 17 p5) = w4 at *
        obtain ⟨qsk, hqk⟩ : ∃ q : List SpanV, ((chS, Value.slice none 0 0) :: List.replicate 16 (zS, Value.slice none 0 0)) = q := ⟨_, rfl⟩
        rw [hqk] at SW
        have HQK : Hid ((⟨1, 2, spd qsk⟩ : BatchD) = badBt 5) := hd (by rw [← hqk]; rfl)
        have HWF : Hid (∀ q ∈ qsk, WfS q.1) := hd (by rw [← hqk]; intro q hq a ha; rcases List.mem_cons.1 hq with rfl | hq; · cases ha
                                                      · obtain ⟨_, rfl⟩ := List.mem_replicate.1 hq; cases ha)
        clear hqk A O HB3
        have a0 := AW.out.cell 0
        have a1 := AW.out.cell 1
        have a2 := AW.out.cell 2
        simp at a0 a1 a2
        have hok : okB ⟨1, 2, spd qsk⟩ = false := by rw [HQK.out]; exact badBt_not 5 (by decide)
        have HBT := bytesB_any (ag := 1) (sq := 2) SW.out HWF.out
        rw [hok] at HBT
        simp only [Bool.false_eq_true, if_false] at HBT
        go_wp2_with fail
        refine HBT.mono ?_
        rintro e w8 ⟨a8, n8, p8, rfl, hn8, _, hk⟩
        obtain rfl : n8 = 0 := hn8.symm
        have AW8 := hd (AW.out.keep hk)
        have SW8 := hd (SW.out.keep hk)
        have BW8 := hd (below_below BW.out hk)
        clear hk HBT hn8 a0 a1 a2 AW SW BW
        have a0 := AW8.out.cell 0
        have a1 := AW8.out.cell 1
        have a2 := AW8.out.cell 2
        simp at a0 a1 a2
        go_wp2_with fail
        have HC := checkB_any (ag := 1) (sq := 2) SW8.out HWF.out
        rw [hok] at HC
        simp only [Bool.false_eq_true, if_false] at HC
        refine HC.mono ?_
        rintro e w9 ⟨rfl, hk⟩
        have BW9 := hd (below_below BW8.out hk)
        clear hk HC a0 a1 a2 hok
        go_wp2_with fail
        go_roundw
        case rel => exact ⟨6, by decide, rfl, BW9.out⟩
        case measure => decide
      · rw [show ((6 : Nat) : Int) = 6 from rfl]
        have cc : w3.cell? ⟨b, 0, none⟩ = _ := one_cell O.out 0 rfl
        have fc := one_fz O.out 0
        have ks := kp_set1 w3 b 0 (.int .i64 0)
        have AW := hd (ks.bk A.out (fun e => HNE.out e.symm))
        have hsp := one_set (f := 0) (u := .int .i64 0) O.out (by decide) (⟨0, 4, 0, 5, 6, ⟨#[97]⟩, ⟨#[98]⟩, ⟨#[]⟩, []⟩, Value.slice none 0 0) rfl (El.nilA _)
        have BW := hd (HB3.out.trans (ks.below w.heap.size HB3.out.size (fun j hj e => by have := HBB.out; omega)))
        go_upto_region 47 with fail
        clear cc fc ks
        generalize w3.setCell ⟨b, 0, none⟩ (.int .i64 0) = w4 at *
        obtain ⟨qsk, hqk⟩ : ∃ q : List SpanV, [(⟨0, 4, 0, 5, 6, ⟨#[97]⟩, ⟨#[98]⟩, ⟨#[]⟩, []⟩, Value.slice none 0 0)] = q := ⟨_, rfl⟩
        have SW : Hid (Sps w4 (Value.slice (some ⟨b, 0, none⟩) 1 1) qsk) := hd (by rw [← hqk]; exact hsp)
        have HQK : Hid ((⟨1, 2, spd qsk⟩ : BatchD) = badBt 6) := hd (by rw [← hqk]; rfl)
        have HWF : Hid (∀ q ∈ qsk, WfS q.1) := hd (by rw [← hqk]; intro q hq; obtain rfl := List.mem_singleton.1 hq; intro a ha; cases ha)
        clear hqk hsp A O HB3
        have a0 := AW.out.cell 0
        have a1 := AW.out.cell 1
        have a2 := AW.out.cell 2
        simp at a0 a1 a2
        have hok : okB ⟨1, 2, spd qsk⟩ = false := by rw [HQK.out]; exact badBt_not 6 (by decide)
        have HBT := bytesB_any (ag := 1) (sq := 2) SW.out HWF.out
        rw [hok] at HBT
        simp only [Bool.false_eq_true, if_false] at HBT
        go_wp2_with fail
        refine HBT.mono ?_
        rintro e w8 ⟨a8, n8, p8, rfl, hn8, _, hk⟩
        obtain rfl : n8 = 0 := hn8.symm
        have AW8 := hd (AW.out.keep hk)
        have SW8 := hd (SW.out.keep hk)
        have BW8 := hd (below_below BW.out hk)
        clear hk HBT hn8 a0 a1 a2 AW SW BW
        have a0 := AW8.out.cell 0
        have a1 := AW8.out.cell 1
        have a2 := AW8.out.cell 2
        simp at a0 a1 a2
        go_wp2_with fail
        have HC := checkB_any (ag := 1) (sq := 2) SW8.out HWF.out
        rw [hok] at HC
        simp only [Bool.false_eq_true, if_false] at HC
        refine HC.mono ?_
        rintro e w9 ⟨rfl, hk⟩
        have BW9 := hd (below_below BW8.out hk)
        clear hk HC a0 a1 a2 hok
        go_wp2_with fail
        go_roundw
        case rel => exact ⟨7, by decide, rfl, BW9.out⟩
        case measure => decide
      · rw [show ((7 : Nat) : Int) = 7 from rfl]
        have cc : w3.cell? ⟨b, 1, none⟩ = _ := one_cell O.out 1 rfl
        have fc := one_fz O.out 1
        have ks := kp_set1 w3 b 1 (.int .i64 0)
        have AW := hd (ks.bk A.out (fun e => HNE.out e.symm))
        have hsp := one_set (f := 1) (u := .int .i64 0) O.out (by decide) (⟨3, 0, 0, 5, 6, ⟨#[97]⟩, ⟨#[98]⟩, ⟨#[]⟩, []⟩, Value.slice none 0 0) rfl (El.nilA _)
        have BW := hd (HB3.out.trans (ks.below w.heap.size HB3.out.size (fun j hj e => by have := HBB.out; omega)))
        go_upto_region 47 with fail
        clear cc fc ks
        generalize w3.setCell ⟨b, 1, none⟩ (.int .i64 0) = w4 at *
        obtain ⟨qsk, hqk⟩ : ∃ q : List SpanV, [(⟨3, 0, 0, 5, 6, ⟨#[97]⟩, ⟨#[98]⟩, ⟨#[]⟩, []⟩, Value.slice none 0 0)] = q := ⟨_, rfl⟩
        have SW : Hid (Sps w4 (Value.slice (some ⟨b, 0, none⟩) 1 1) qsk) := hd (by rw [← hqk]; exact hsp)
        have HQK : Hid ((⟨1, 2, spd qsk⟩ : BatchD) = badBt 7) := hd (by rw [← hqk]; rfl)
        have HWF : Hid (∀ q ∈ qsk, WfS q.1) := hd (by rw [← hqk]; intro q hq; obtain rfl := List.mem_singleton.1 hq; intro a ha; cases ha)
        clear hqk hsp A O HB3
        have a0 := AW.out.cell 0
        have a1 := AW.out.cell 1
        have a2 := AW.out.cell 2
        simp at a0 a1 a2
        have hok : okB ⟨1, 2, spd qsk⟩ = false := by rw [HQK.out]; exact badBt_not 7 (by decide)
        have HBT := bytesB_any (ag := 1) (sq := 2) SW.out HWF.out
        rw [hok] at HBT
        simp only [Bool.false_eq_true, if_false] at HBT
        go_wp2_with fail
        refine HBT.mono ?_
        rintro e w8 ⟨a8, n8, p8, rfl, hn8, _, hk⟩
        obtain rfl : n8 = 0 := hn8.symm
        have AW8 := hd (AW.out.keep hk)
        have SW8 := hd (SW.out.keep hk)
        have BW8 := hd (below_below BW.out hk)
        clear hk HBT hn8 a0 a1 a2 AW SW BW
        have a0 := AW8.out.cell 0
        have a1 := AW8.out.cell 1
        have a2 := AW8.out.cell 2
        simp at a0 a1 a2
        go_wp2_with fail
        have HC := checkB_any (ag := 1) (sq := 2) SW8.out HWF.out
        rw [hok] at HC
        simp only [Bool.false_eq_true, if_false] at HC
        refine HC.mono ?_
        rintro e w9 ⟨rfl, hk⟩
        have BW9 := hd (below_below BW8.out hk)
        clear hk HC a0 a1 a2 hok
        go_wp2_with fail
        go_roundw
        case rel => exact ⟨8, by decide, rfl, BW9.out⟩
        case measure => decide
      · rw [show ((8 : Nat) : Int) = 8 from rfl]
        have cc : w3.cell? ⟨b, 2, none⟩ = _ := one_cell O.out 2 rfl
        have fc := one_fz O.out 2
        have ks := kp_set1 w3 b 2 (.int .i64 (-1))
        have AW := hd (ks.bk A.out (fun e => HNE.out e.symm))
        have hsp := one_set (f := 2) (u := .int .i64 (-1)) O.out (by decide) (⟨3, 4, -1, 5, 6, ⟨#[97]⟩, ⟨#[98]⟩, ⟨#[]⟩, []⟩, Value.slice none 0 0) rfl (El.nilA _)
        have BW := hd (HB3.out.trans (ks.below w.heap.size HB3.out.size (fun j hj e => by have := HBB.out; omega)))
        go_upto_region 47 with fail
        clear cc fc ks
        generalize w3.setCell ⟨b, 2, none⟩ (.int .i64 (-1)) = w4 at *
        obtain ⟨qsk, hqk⟩ : ∃ q : List SpanV, [(⟨3, 4, -1, 5, 6, ⟨#[97]⟩, ⟨#[98]⟩, ⟨#[]⟩, []⟩, Value.slice none 0 0)] = q := ⟨_, rfl⟩
        have SW : Hid (Sps w4 (Value.slice (some ⟨b, 0, none⟩) 1 1) qsk) := hd (by rw [← hqk]; exact hsp)
        have HQK : Hid ((⟨1, 2, spd qsk⟩ : BatchD) = badBt 8) := hd (by rw [← hqk]; rfl)
        have HWF : Hid (∀ q ∈ qsk, WfS q.1) := hd (by rw [← hqk]; intro q hq; obtain rfl := List.mem_singleton.1 hq; intro a ha; cases ha)
        clear hqk hsp A O HB3
        have a0 := AW.out.cell 0
        have a1 := AW.out.cell 1
        have a2 := AW.out.cell 2
        simp at a0 a1 a2
        have hok : okB ⟨1, 2, spd qsk⟩ = false := by rw [HQK.out]; exact badBt_not 8 (by decide)
        have HBT := bytesB_any (ag := 1) (sq := 2) SW.out HWF.out
        rw [hok] at HBT
        simp only [Bool.false_eq_true, if_false] at HBT
        go_wp2_with fail
        refine HBT.mono ?_
        rintro e w8 ⟨a8, n8, p8, rfl, hn8, _, hk⟩
        obtain rfl : n8 = 0 := hn8.symm
        have AW8 := hd (AW.out.keep hk)
        have SW8 := hd (SW.out.keep hk)
        have BW8 := hd (below_below BW.out hk)
        clear hk HBT hn8 a0 a1 a2 AW SW BW
        have a0 := AW8.out.cell 0
        have a1 := AW8.out.cell 1
        have a2 := AW8.out.cell 2
        simp at a0 a1 a2
        go_wp2_with fail
        have HC := checkB_any (ag := 1) (sq := 2) SW8.out HWF.out
        rw [hok] at HC
        simp only [Bool.false_eq_true, if_false] at HC
        refine HC.mono ?_
        rintro e w9 ⟨rfl, hk⟩
        have BW9 := hd (below_below BW8.out hk)
        clear hk HC a0 a1 a2 hok
        go_wp2_with fail
        go_roundw
        case rel => exact ⟨9, by decide, rfl, BW9.out⟩
        case measure => decide
      · rw [show ((9 : Nat) : Int) = 9 from rfl]
        have cc : w3.cell? ⟨b, 2, none⟩ = _ := one_cell O.out 2 rfl
        have fc := one_fz O.out 2
        have ks := kp_set1 w3 b 2 (.int .i64 9007199254740992)
        have AW := hd (ks.bk A.out (fun e => HNE.out e.symm))
        have hsp := one_set (f := 2) (u := .int .i64 9007199254740992) O.out (by decide) (⟨3, 4, 9007199254740992, 5, 6, ⟨#[97]⟩, ⟨#[98]⟩, ⟨#[]⟩, []⟩, Value.slice none 0 0) rfl (El.nilA _)
        have BW := hd (HB3.out.trans (ks.below w.heap.size HB3.out.size (fun j hj e => by have := HBB.out; omega)))
        go_upto_region 47 with fail
        clear cc fc ks
        generalize w3.setCell ⟨b, 2, none⟩ (.int .i64 9007199254740992) = w4 at *
        obtain ⟨qsk, hqk⟩ : ∃ q : List SpanV, [(⟨3, 4, 9007199254740992, 5, 6, ⟨#[97]⟩, ⟨#[98]⟩, ⟨#[]⟩, []⟩, Value.slice none 0 0)] = q := ⟨_, rfl⟩
        have SW : Hid (Sps w4 (Value.slice (some ⟨b, 0, none⟩) 1 1) qsk) := hd (by rw [← hqk]; exact hsp)
        have HQK : Hid ((⟨1, 2, spd qsk⟩ : BatchD) = badBt 9) := hd (by rw [← hqk]; rfl)
        have HWF : Hid (∀ q ∈ qsk, WfS q.1) := hd (by rw [← hqk]; intro q hq; obtain rfl := List.mem_singleton.1 hq; intro a ha; cases ha)
        clear hqk hsp A O HB3
        have a0 := AW.out.cell 0
        have a1 := AW.out.cell 1
        have a2 := AW.out.cell 2
        simp at a0 a1 a2
        have hok : okB ⟨1, 2, spd qsk⟩ = false := by rw [HQK.out]; exact badBt_not 9 (by decide)
        have HBT := bytesB_any (ag := 1) (sq := 2) SW.out HWF.out
        rw [hok] at HBT
        simp only [Bool.false_eq_true, if_false] at HBT
        go_wp2_with fail
        refine HBT.mono ?_
        rintro e w8 ⟨a8, n8, p8, rfl, hn8, _, hk⟩
        obtain rfl : n8 = 0 := hn8.symm
        have AW8 := hd (AW.out.keep hk)
        have SW8 := hd (SW.out.keep hk)
        have BW8 := hd (below_below BW.out hk)
        clear hk HBT hn8 a0 a1 a2 AW SW BW
        have a0 := AW8.out.cell 0
        have a1 := AW8.out.cell 1
        have a2 := AW8.out.cell 2
        simp at a0 a1 a2
        go_wp2_with fail
        have HC := checkB_any (ag := 1) (sq := 2) SW8.out HWF.out
        rw [hok] at HC
        simp only [Bool.false_eq_true, if_false] at HC
        refine HC.mono ?_
        rintro e w9 ⟨rfl, hk⟩
        have BW9 := hd (below_below BW8.out hk)
        clear hk HC a0 a1 a2 hok
        go_wp2_with fail
        go_roundw
        case rel => exact ⟨10, by decide, rfl, BW9.out⟩
        case measure => decide
      · rw [show ((10 : Nat) : Int) = 10 from rfl]
        have cc : w3.cell? ⟨b, 5, none⟩ = _ := one_cell O.out 5 rfl
        have fc := one_fz O.out 5
        have ks := kp_set1 w3 b 5 (.int .i64 (-1))
        have AW := hd (ks.bk A.out (fun e => HNE.out e.symm))
        have hsp := one_set (f := 5) (u := .int .i64 (-1)) O.out (by decide) (⟨3, 4, 0, -1, 6, ⟨#[97]⟩, ⟨#[98]⟩, ⟨#[]⟩, []⟩, Value.slice none 0 0) rfl (El.nilA _)
        have BW := hd (HB3.out.trans (ks.below w.heap.size HB3.out.size (fun j hj e => by have := HBB.out; omega)))
        go_upto_region 47 with fail
        clear cc fc ks
        generalize w3.setCell ⟨b, 5, none⟩ (.int .i64 (-1)) = w4 at *
        obtain ⟨qsk, hqk⟩ : ∃ q : List SpanV, [(⟨3, 4, 0, -1, 6, ⟨#[97]⟩, ⟨#[98]⟩, ⟨#[]⟩, []⟩, Value.slice none 0 0)] = q := ⟨_, rfl⟩
        have SW : Hid (Sps w4 (Value.slice (some ⟨b, 0, none⟩) 1 1) qsk) := hd (by rw [← hqk]; exact hsp)
        have HQK : Hid ((⟨1, 2, spd qsk⟩ : BatchD) = badBt 10) := hd (by rw [← hqk]; rfl)
        have HWF : Hid (∀ q ∈ qsk, WfS q.1) := hd (by rw [← hqk]; intro q hq; obtain rfl := List.mem_singleton.1 hq; intro a ha; cases ha)
        clear hqk hsp A O HB3
        have a0 := AW.out.cell 0
        have a1 := AW.out.cell 1
        have a2 := AW.out.cell 2
        simp at a0 a1 a2
        have hok : okB ⟨1, 2, spd qsk⟩ = false := by rw [HQK.out]; exact badBt_not 10 (by decide)
        have HBT := bytesB_any (ag := 1) (sq := 2) SW.out HWF.out
        rw [hok] at HBT
        simp only [Bool.false_eq_true, if_false] at HBT
        go_wp2_with fail
        refine HBT.mono ?_
        rintro e w8 ⟨a8, n8, p8, rfl, hn8, _, hk⟩
        obtain rfl : n8 = 0 := hn8.symm
        have AW8 := hd (AW.out.keep hk)
        have SW8 := hd (SW.out.keep hk)
        have BW8 := hd (below_below BW.out hk)
        clear hk HBT hn8 a0 a1 a2 AW SW BW
        have a0 := AW8.out.cell 0
        have a1 := AW8.out.cell 1
        have a2 := AW8.out.cell 2
        simp at a0 a1 a2
        go_wp2_with fail
        have HC := checkB_any (ag := 1) (sq := 2) SW8.out HWF.out
        rw [hok] at HC
        simp only [Bool.false_eq_true, if_false] at HC
        refine HC.mono ?_
        rintro e w9 ⟨rfl, hk⟩
        have BW9 := hd (below_below BW8.out hk)
        clear hk HC a0 a1 a2 hok
        go_wp2_with fail
        go_roundw
        case rel => exact ⟨11, by decide, rfl, BW9.out⟩
        case measure => decide
      · rw [show ((11 : Nat) : Int) = 11 from rfl]
        have cc : w3.cell? ⟨b, 6, none⟩ = _ := one_cell O.out 6 rfl
        have fc := one_fz O.out 6
        have ks := kp_set1 w3 b 6 (.int .i64 (-1))
        have AW := hd (ks.bk A.out (fun e => HNE.out e.symm))
        have hsp := one_set (f := 6) (u := .int .i64 (-1)) O.out (by decide) (⟨3, 4, 0, 5, -1, ⟨#[97]⟩, ⟨#[98]⟩, ⟨#[]⟩, []⟩, Value.slice none 0 0) rfl (El.nilA _)
        have BW := hd (HB3.out.trans (ks.below w.heap.size HB3.out.size (fun j hj e => by have := HBB.out; omega)))
        go_upto_region 47 with fail
        clear cc fc ks
        generalize w3.setCell ⟨b, 6, none⟩ (.int .i64 (-1)) = w4 at *
        obtain ⟨qsk, hqk⟩ : ∃ q : List SpanV, [(⟨3, 4, 0, 5, -1, ⟨#[97]⟩, ⟨#[98]⟩, ⟨#[]⟩, []⟩, Value.slice none 0 0)] = q := ⟨_, rfl⟩
        have SW : Hid (Sps w4 (Value.slice (some ⟨b, 0, none⟩) 1 1) qsk) := hd (by rw [← hqk]; exact hsp)
        have HQK : Hid ((⟨1, 2, spd qsk⟩ : BatchD) = badBt 11) := hd (by rw [← hqk]; rfl)
        have HWF : Hid (∀ q ∈ qsk, WfS q.1) := hd (by rw [← hqk]; intro q hq; obtain rfl := List.mem_singleton.1 hq; intro a ha; cases ha)
        clear hqk hsp A O HB3
        have a0 := AW.out.cell 0
        have a1 := AW.out.cell 1
        have a2 := AW.out.cell 2
        simp at a0 a1 a2
        have hok : okB ⟨1, 2, spd qsk⟩ = false := by rw [HQK.out]; exact badBt_not 11 (by decide)
        have HBT := bytesB_any (ag := 1) (sq := 2) SW.out HWF.out
        rw [hok] at HBT
        simp only [Bool.false_eq_true, if_false] at HBT
        go_wp2_with fail
        refine HBT.mono ?_
        rintro e w8 ⟨a8, n8, p8, rfl, hn8, _, hk⟩
        obtain rfl : n8 = 0 := hn8.symm
        have AW8 := hd (AW.out.keep hk)
        have SW8 := hd (SW.out.keep hk)
        have BW8 := hd (below_below BW.out hk)
        clear hk HBT hn8 a0 a1 a2 AW SW BW
        have a0 := AW8.out.cell 0
        have a1 := AW8.out.cell 1
        have a2 := AW8.out.cell 2
        simp at a0 a1 a2
        go_wp2_with fail
        have HC := checkB_any (ag := 1) (sq := 2) SW8.out HWF.out
        rw [hok] at HC
        simp only [Bool.false_eq_true, if_false] at HC
        refine HC.mono ?_
        rintro e w9 ⟨rfl, hk⟩
        have BW9 := hd (below_below BW8.out hk)
        clear hk HC a0 a1 a2 hok
        go_wp2_with fail
        go_roundw
        case rel => exact ⟨12, by decide, rfl, BW9.out⟩
        case measure => decide
      · rw [show ((12 : Nat) : Int) = 12 from rfl]
        have cc : w3.cell? ⟨b, 5, none⟩ = _ := one_cell O.out 5 rfl
        have fc := one_fz O.out 5
        have ks := kp_set1 w3 b 5 (.int .i64 9007199254740991)
        have AW := hd (ks.bk A.out (fun e => HNE.out e.symm))
        have hsp := one_set (f := 5) (u := .int .i64 9007199254740991) O.out (by decide) (⟨3, 4, 0, 9007199254740991, 6, ⟨#[97]⟩, ⟨#[98]⟩, ⟨#[]⟩, []⟩, Value.slice none 0 0) rfl (El.nilA _)
        have BW := hd (HB3.out.trans (ks.below w.heap.size HB3.out.size (fun j hj e => by have := HBB.out; omega)))
        go_upto_region 47 with fail
        clear cc fc ks
        generalize w3.setCell ⟨b, 5, none⟩ (.int .i64 9007199254740991) = w4 at *
        obtain ⟨qsk, hqk⟩ : ∃ q : List SpanV, [(⟨3, 4, 0, 9007199254740991, 6, ⟨#[97]⟩, ⟨#[98]⟩, ⟨#[]⟩, []⟩, Value.slice none 0 0)] = q := ⟨_, rfl⟩
        have SW : Hid (Sps w4 (Value.slice (some ⟨b, 0, none⟩) 1 1) qsk) := hd (by rw [← hqk]; exact hsp)
        have HQK : Hid ((⟨1, 2, spd qsk⟩ : BatchD) = badBt 12) := hd (by rw [← hqk]; rfl)
        have HWF : Hid (∀ q ∈ qsk, WfS q.1) := hd (by rw [← hqk]; intro q hq; obtain rfl := List.mem_singleton.1 hq; intro a ha; cases ha)
        clear hqk hsp A O HB3
        have a0 := AW.out.cell 0
        have a1 := AW.out.cell 1
        have a2 := AW.out.cell 2
        simp at a0 a1 a2
        have hok : okB ⟨1, 2, spd qsk⟩ = false := by rw [HQK.out]; exact badBt_not 12 (by decide)
        have HBT := bytesB_any (ag := 1) (sq := 2) SW.out HWF.out
        rw [hok] at HBT
        simp only [Bool.false_eq_true, if_false] at HBT
        go_wp2_with fail
        refine HBT.mono ?_
        rintro e w8 ⟨a8, n8, p8, rfl, hn8, _, hk⟩
        obtain rfl : n8 = 0 := hn8.symm
        have AW8 := hd (AW.out.keep hk)
        have SW8 := hd (SW.out.keep hk)
        have BW8 := hd (below_below BW.out hk)
        clear hk HBT hn8 a0 a1 a2 AW SW BW
        have a0 := AW8.out.cell 0
        have a1 := AW8.out.cell 1
        have a2 := AW8.out.cell 2
        simp at a0 a1 a2
        go_wp2_with fail
        have HC := checkB_any (ag := 1) (sq := 2) SW8.out HWF.out
        rw [hok] at HC
        simp only [Bool.false_eq_true, if_false] at HC
        refine HC.mono ?_
        rintro e w9 ⟨rfl, hk⟩
        have BW9 := hd (below_below BW8.out hk)
        clear hk HC a0 a1 a2 hok
        go_wp2_with fail
        go_roundw
        case rel => exact ⟨13, by decide, rfl, BW9.out⟩
        case measure => decide
      · rw [show ((13 : Nat) : Int) = 13 from rfl]
        have cc : w3.cell? ⟨b, 3, none⟩ = _ := one_cell O.out 3 rfl
        have fc := one_fz O.out 3
        have ks := kp_set1 w3 b 3 (.string ⟨#[]⟩)
        have AW := hd (ks.bk A.out (fun e => HNE.out e.symm))
        have hsp := one_set (f := 3) (u := .string ⟨#[]⟩) O.out (by decide) (⟨3, 4, 0, 5, 6, ⟨#[]⟩, ⟨#[98]⟩, ⟨#[]⟩, []⟩, Value.slice none 0 0) rfl (El.nilA _)
        have BW := hd (HB3.out.trans (ks.below w.heap.size HB3.out.size (fun j hj e => by have := HBB.out; omega)))
        go_upto_region 47 with fail
        clear cc fc ks
        generalize w3.setCell ⟨b, 3, none⟩ (.string ⟨#[]⟩) = w4 at *
        obtain ⟨qsk, hqk⟩ : ∃ q : List SpanV, [(⟨3, 4, 0, 5, 6, ⟨#[]⟩, ⟨#[98]⟩, ⟨#[]⟩, []⟩, Value.slice none 0 0)] = q := ⟨_, rfl⟩
        have SW : Hid (Sps w4 (Value.slice (some ⟨b, 0, none⟩) 1 1) qsk) := hd (by rw [← hqk]; exact hsp)
        have HQK : Hid ((⟨1, 2, spd qsk⟩ : BatchD) = badBt 13) := hd (by rw [← hqk]; rfl)
        have HWF : Hid (∀ q ∈ qsk, WfS q.1) := hd (by rw [← hqk]; intro q hq; obtain rfl := List.mem_singleton.1 hq; intro a ha; cases ha)
        clear hqk hsp A O HB3
        have a0 := AW.out.cell 0
        have a1 := AW.out.cell 1
        have a2 := AW.out.cell 2
        simp at a0 a1 a2
        have hok : okB ⟨1, 2, spd qsk⟩ = false := by rw [HQK.out]; exact badBt_not 13 (by decide)
        have HBT := bytesB_any (ag := 1) (sq := 2) SW.out HWF.out
        rw [hok] at HBT
        simp only [Bool.false_eq_true, if_false] at HBT
        go_wp2_with fail
        refine HBT.mono ?_
        rintro e w8 ⟨a8, n8, p8, rfl, hn8, _, hk⟩
        obtain rfl : n8 = 0 := hn8.symm
        have AW8 := hd (AW.out.keep hk)
        have SW8 := hd (SW.out.keep hk)
        have BW8 := hd (below_below BW.out hk)
        clear hk HBT hn8 a0 a1 a2 AW SW BW
        have a0 := AW8.out.cell 0
        have a1 := AW8.out.cell 1
        have a2 := AW8.out.cell 2
        simp at a0 a1 a2
        go_wp2_with fail
        have HC := checkB_any (ag := 1) (sq := 2) SW8.out HWF.out
        rw [hok] at HC
        simp only [Bool.false_eq_true, if_false] at HC
        refine HC.mono ?_
        rintro e w9 ⟨rfl, hk⟩
        have BW9 := hd (below_below BW8.out hk)
        clear hk HC a0 a1 a2 hok
        go_wp2_with fail
        go_roundw
        case rel => exact ⟨14, by decide, rfl, BW9.out⟩
        case measure => decide
      · rw [show ((14 : Nat) : Int) = 14 from rfl]
        have cc : w3.cell? ⟨b, 4, none⟩ = _ := one_cell O.out 4 rfl
        have fc := one_fz O.out 4
        have ks := kp_set1 w3 b 4 (.string ⟨#[66]⟩)
        have AW := hd (ks.bk A.out (fun e => HNE.out e.symm))
        have hsp := one_set (f := 4) (u := .string ⟨#[66]⟩) O.out (by decide) (⟨3, 4, 0, 5, 6, ⟨#[97]⟩, ⟨#[66]⟩, ⟨#[]⟩, []⟩, Value.slice none 0 0) rfl (El.nilA _)
        have BW := hd (HB3.out.trans (ks.below w.heap.size HB3.out.size (fun j hj e => by have := HBB.out; omega)))
        go_upto_region 47 with fail
        clear cc fc ks
        generalize w3.setCell ⟨b, 4, none⟩ (.string ⟨#[66]⟩) = w4 at *
        obtain ⟨qsk, hqk⟩ : ∃ q : List SpanV, [(⟨3, 4, 0, 5, 6, ⟨#[97]⟩, ⟨#[66]⟩, ⟨#[]⟩, []⟩, Value.slice none 0 0)] = q := ⟨_, rfl⟩
        have SW : Hid (Sps w4 (Value.slice (some ⟨b, 0, none⟩) 1 1) qsk) := hd (by rw [← hqk]; exact hsp)
        have HQK : Hid ((⟨1, 2, spd qsk⟩ : BatchD) = badBt 14) := hd (by rw [← hqk]; rfl)
        have HWF : Hid (∀ q ∈ qsk, WfS q.1) := hd (by rw [← hqk]; intro q hq; obtain rfl := List.mem_singleton.1 hq; intro a ha; cases ha)
        clear hqk hsp A O HB3
        have a0 := AW.out.cell 0
        have a1 := AW.out.cell 1
        have a2 := AW.out.cell 2
        simp at a0 a1 a2
        have hok : okB ⟨1, 2, spd qsk⟩ = false := by rw [HQK.out]; exact badBt_not 14 (by decide)
        have HBT := bytesB_any (ag := 1) (sq := 2) SW.out HWF.out
        rw [hok] at HBT
        simp only [Bool.false_eq_true, if_false] at HBT
        go_wp2_with fail
        refine HBT.mono ?_
        rintro e w8 ⟨a8, n8, p8, rfl, hn8, _, hk⟩
        obtain rfl : n8 = 0 := hn8.symm
        have AW8 := hd (AW.out.keep hk)
        have SW8 := hd (SW.out.keep hk)
        have BW8 := hd (below_below BW.out hk)
        clear hk HBT hn8 a0 a1 a2 AW SW BW
        have a0 := AW8.out.cell 0
        have a1 := AW8.out.cell 1
        have a2 := AW8.out.cell 2
        simp at a0 a1 a2
        go_wp2_with fail
        have HC := checkB_any (ag := 1) (sq := 2) SW8.out HWF.out
        rw [hok] at HC
        simp only [Bool.false_eq_true, if_false] at HC
        refine HC.mono ?_
        rintro e w9 ⟨rfl, hk⟩
        have BW9 := hd (below_below BW8.out hk)
        clear hk HC a0 a1 a2 hok
        go_wp2_with fail
        go_roundw
        case rel => exact ⟨15, by decide, rfl, BW9.out⟩
        case measure => decide
      · rw [show ((15 : Nat) : Int) = 15 from rfl]
        go_wp2_with fail
        refine (repeat_one 115 65 w3 (by omega)).mono ?_
        rintro e w5 ⟨rfl, hk5⟩
        have A5 := hd (A.out.keep hk5)
        have O5 := hd (O.out.keep hk5)
        have HB5 := hd (below_below HB3.out hk5)
        have cc : w5.cell? ⟨b, 7, none⟩ = _ := one_cell O5.out 7 rfl
        have fc := one_fz O5.out 7
        have ks := kp_set1 w5 b 7 (.string ⟨Array.replicate 65 115⟩)
        have AW := hd (ks.bk A5.out (fun e => HNE.out e.symm))
        have hsp := one_set (f := 7) (u := .string ⟨Array.replicate 65 115⟩) O5.out (by decide) (⟨3, 4, 0, 5, 6, ⟨#[97]⟩, ⟨#[98]⟩, ⟨Array.replicate 65 115⟩, []⟩, Value.slice none 0 0) rfl (El.nilA _)
        have BW := hd (HB5.out.trans (ks.below w.heap.size HB5.out.size (fun j hj e => by have := HBB.out; omega)))
        clear hk5 A O HB3 A5 O5 HB5
        go_upto_region 47 with fail
        clear cc fc ks
        generalize w5.setCell ⟨b, 7, none⟩ (.string ⟨Array.replicate 65 115⟩) = w4 at *
        obtain ⟨qsk, hqk⟩ : ∃ q : List SpanV, [(⟨3, 4, 0, 5, 6, ⟨#[97]⟩, ⟨#[98]⟩, ⟨Array.replicate 65 115⟩, []⟩, Value.slice none 0 0)] = q := ⟨_, rfl⟩
        have SW : Hid (Sps w4 (Value.slice (some ⟨b, 0, none⟩) 1 1) qsk) := hd (by rw [← hqk]; exact hsp)
        have HQK : Hid ((⟨1, 2, spd qsk⟩ : BatchD) = badBt 15) := hd (by rw [← hqk]; rfl)
        have HWF : Hid (∀ q ∈ qsk, WfS q.1) := hd (by rw [← hqk]; intro q hq; obtain rfl := List.mem_singleton.1 hq; intro a ha; cases ha)
        clear hqk hsp
        have a0 := AW.out.cell 0
        have a1 := AW.out.cell 1
        have a2 := AW.out.cell 2
        simp at a0 a1 a2
        have hok : okB ⟨1, 2, spd qsk⟩ = false := by rw [HQK.out]; exact badBt_not 15 (by decide)
        have HBT := bytesB_any (ag := 1) (sq := 2) SW.out HWF.out
        rw [hok] at HBT
        simp only [Bool.false_eq_true, if_false] at HBT
        go_wp2_with fail
        refine HBT.mono ?_
        rintro e w8 ⟨a8, n8, p8, rfl, hn8, _, hk⟩
        obtain rfl : n8 = 0 := hn8.symm
        have AW8 := hd (AW.out.keep hk)
        have SW8 := hd (SW.out.keep hk)
        have BW8 := hd (below_below BW.out hk)
        clear hk HBT hn8 a0 a1 a2 AW SW BW
        have a0 := AW8.out.cell 0
        have a1 := AW8.out.cell 1
        have a2 := AW8.out.cell 2
        simp at a0 a1 a2
        go_wp2_with fail
        have HC := checkB_any (ag := 1) (sq := 2) SW8.out HWF.out
        rw [hok] at HC
        simp only [Bool.false_eq_true, if_false] at HC
        refine HC.mono ?_
        rintro e w9 ⟨rfl, hk⟩
        have BW9 := hd (below_below BW8.out hk)
        clear hk HC a0 a1 a2 hok
        go_wp2_with fail
        go_roundw
        case rel => exact ⟨16, by decide, rfl, BW9.out⟩
        case measure => decide
      · rw [show ((16 : Nat) : Int) = 16 from rfl]
        have NB := below1 w3 (Obj.cells #[Value.string ⟨#[97]⟩, Value.int IntKind.i64 0, Value.int IntKind.u32 0, Value.int IntKind.i64 0, Value.int IntKind.i64 0, Value.string ⟨#[]⟩] 44)
        have hat := Bk.new w3 44 #[Value.string ⟨#[97]⟩, Value.int IntKind.i64 0, Value.int IntKind.u32 0, Value.int IntKind.i64 0, Value.int IntKind.i64 0, Value.string ⟨#[]⟩]
        have A5 := hd (A.out.keep NB)
        have O5 := hd (O.out.keep NB)
        have HB5 := hd (below_below HB3.out NB)
        have HB3S := hd HBB.out.2
        have cc : (w3.alloc (Obj.cells #[Value.string ⟨#[97]⟩, Value.int IntKind.i64 0, Value.int IntKind.u32 0, Value.int IntKind.i64 0, Value.int IntKind.i64 0, Value.string ⟨#[]⟩] 44)).cell? ⟨b, 8, none⟩ = _ := one_cell O5.out 8 rfl
        have fc := one_fz O5.out 8
        have ks := kp_set1 (w3.alloc (Obj.cells #[Value.string ⟨#[97]⟩, Value.int IntKind.i64 0, Value.int IntKind.u32 0, Value.int IntKind.i64 0, Value.int IntKind.i64 0, Value.string ⟨#[]⟩] 44)) b 8 (Value.slice (some ⟨w3.heap.size, 0, none⟩) 1 1)
        have hat2 := ks.bk hat (by have := HB3S.out; omega)
        have hel : El encA 6 ((w3.alloc (Obj.cells #[Value.string ⟨#[97]⟩, Value.int IntKind.i64 0, Value.int IntKind.u32 0, Value.int IntKind.i64 0, Value.int IntKind.i64 0, Value.string ⟨#[]⟩] 44)).setCell ⟨b, 8, none⟩ (Value.slice (some ⟨w3.heap.size, 0, none⟩) 1 1)) (Value.slice (some ⟨w3.heap.size, 0, none⟩) 1 1) [(⟨#[97]⟩, 0, 0, 0, 0, ⟨#[]⟩)] := El.oneA hat2
        have AW := hd (ks.bk A5.out (fun e => HNE.out e.symm))
        have hsp := one_set (f := 8) (u := Value.slice (some ⟨w3.heap.size, 0, none⟩) 1 1) O5.out (by decide) (⟨3, 4, 0, 5, 6, ⟨#[97]⟩, ⟨#[98]⟩, ⟨#[]⟩, [(⟨#[97]⟩, 0, 0, 0, 0, ⟨#[]⟩)]⟩, Value.slice (some ⟨w3.heap.size, 0, none⟩) 1 1) rfl hel
        have BW := hd (HB5.out.trans (ks.below w.heap.size HB5.out.size (fun j hj e => by have := HBB.out; omega)))
        clear NB hat hat2 hel A O HB3 A5 O5 HB5
        go_upto_region 47 with fail
        clear cc fc ks
        generalize (w3.alloc (Obj.cells #[Value.string ⟨#[97]⟩, Value.int IntKind.i64 0, Value.int IntKind.u32 0, Value.int IntKind.i64 0, Value.int IntKind.i64 0, Value.string ⟨#[]⟩] 44)).setCell ⟨b, 8, none⟩ (Value.slice (some ⟨w3.heap.size, 0, none⟩) 1 1) = w4 at *
        obtain ⟨qsk, hqk⟩ : ∃ q : List SpanV, [(⟨3, 4, 0, 5, 6, ⟨#[97]⟩, ⟨#[98]⟩, ⟨#[]⟩, [(⟨#[97]⟩, 0, 0, 0, 0, ⟨#[]⟩)]⟩, Value.slice (some ⟨w3.heap.size, 0, none⟩) 1 1)] = q := ⟨_, rfl⟩
        have SW : Hid (Sps w4 (Value.slice (some ⟨b, 0, none⟩) 1 1) qsk) := hd (by rw [← hqk]; exact hsp)
        have HQK : Hid ((⟨1, 2, spd qsk⟩ : BatchD) = badBt 16) := hd (by rw [← hqk]; rfl)
        have HWF : Hid (∀ q ∈ qsk, WfS q.1) := hd (by rw [← hqk]; intro q hq; obtain rfl := List.mem_singleton.1 hq; intro a ha; obtain rfl := List.mem_singleton.1 ha; exact ⟨by decide, by decide⟩)
        clear hqk hsp
        have a0 := AW.out.cell 0
        have a1 := AW.out.cell 1
        have a2 := AW.out.cell 2
        simp at a0 a1 a2
        have hok : okB ⟨1, 2, spd qsk⟩ = false := by rw [HQK.out]; exact badBt_not 16 (by decide)
        have HBT := bytesB_any (ag := 1) (sq := 2) SW.out HWF.out
        rw [hok] at HBT
        simp only [Bool.false_eq_true, if_false] at HBT
        go_wp2_with fail
        refine HBT.mono ?_
        rintro e w8 ⟨a8, n8, p8, rfl, hn8, _, hk⟩
        obtain rfl : n8 = 0 := hn8.symm
        have AW8 := hd (AW.out.keep hk)
        have SW8 := hd (SW.out.keep hk)
        have BW8 := hd (below_below BW.out hk)
        clear hk HBT hn8 a0 a1 a2 AW SW BW
        have a0 := AW8.out.cell 0
        have a1 := AW8.out.cell 1
        have a2 := AW8.out.cell 2
        simp at a0 a1 a2
        go_wp2_with fail
        have HC := checkB_any (ag := 1) (sq := 2) SW8.out HWF.out
        rw [hok] at HC
        simp only [Bool.false_eq_true, if_false] at HC
        refine HC.mono ?_
        rintro e w9 ⟨rfl, hk⟩
        have BW9 := hd (below_below BW8.out hk)
        clear hk HC a0 a1 a2 hok
        go_wp2_with fail
        go_roundw
        case rel => exact ⟨17, by decide, rfl, BW9.out⟩
        case measure => decide
      · rw [show ((17 : Nat) : Int) = 17 from rfl]
        have cc : w3.cell? ⟨b, 0, none⟩ = _ := one_cell O.out 0 rfl
        have fc := one_fz O.out 0
        have ks := kp_set1 w3 b 0 (.int .i64 9007199254740992)
        have AW := hd (ks.bk A.out (fun e => HNE.out e.symm))
        have hsp := one_set (f := 0) (u := .int .i64 9007199254740992) O.out (by decide) (⟨9007199254740992, 4, 0, 5, 6, ⟨#[97]⟩, ⟨#[98]⟩, ⟨#[]⟩, []⟩, Value.slice none 0 0) rfl (El.nilA _)
        have BW := hd (HB3.out.trans (ks.below w.heap.size HB3.out.size (fun j hj e => by have := HBB.out; omega)))
        go_upto_region 47 with fail
        clear cc fc ks
        generalize w3.setCell ⟨b, 0, none⟩ (.int .i64 9007199254740992) = w4 at *
        obtain ⟨qsk, hqk⟩ : ∃ q : List SpanV, [(⟨9007199254740992, 4, 0, 5, 6, ⟨#[97]⟩, ⟨#[98]⟩, ⟨#[]⟩, []⟩, Value.slice none 0 0)] = q := ⟨_, rfl⟩
        have SW : Hid (Sps w4 (Value.slice (some ⟨b, 0, none⟩) 1 1) qsk) := hd (by rw [← hqk]; exact hsp)
        have HQK : Hid ((⟨1, 2, spd qsk⟩ : BatchD) = badBt 17) := hd (by rw [← hqk]; rfl)
        have HWF : Hid (∀ q ∈ qsk, WfS q.1) := hd (by rw [← hqk]; intro q hq; obtain rfl := List.mem_singleton.1 hq; intro a ha; cases ha)
        clear hqk hsp A O HB3
        have a0 := AW.out.cell 0
        have a1 := AW.out.cell 1
        have a2 := AW.out.cell 2
        simp at a0 a1 a2
        have hok : okB ⟨1, 2, spd qsk⟩ = false := by rw [HQK.out]; exact badBt_not 17 (by decide)
        have HBT := bytesB_any (ag := 1) (sq := 2) SW.out HWF.out
        rw [hok] at HBT
        simp only [Bool.false_eq_true, if_false] at HBT
        go_wp2_with fail
        refine HBT.mono ?_
        rintro e w8 ⟨a8, n8, p8, rfl, hn8, _, hk⟩
        obtain rfl : n8 = 0 := hn8.symm
        have AW8 := hd (AW.out.keep hk)
        have SW8 := hd (SW.out.keep hk)
        have BW8 := hd (below_below BW.out hk)
        clear hk HBT hn8 a0 a1 a2 AW SW BW
        have a0 := AW8.out.cell 0
        have a1 := AW8.out.cell 1
        have a2 := AW8.out.cell 2
        simp at a0 a1 a2
        go_wp2_with fail
        have HC := checkB_any (ag := 1) (sq := 2) SW8.out HWF.out
        rw [hok] at HC
        simp only [Bool.false_eq_true, if_false] at HC
        refine HC.mono ?_
        rintro e w9 ⟨rfl, hk⟩
        have BW9 := hd (below_below BW8.out hk)
        clear hk HC a0 a1 a2 hok
        go_wp2_with fail
        go_roundw
        case rel => exact ⟨18, by decide, rfl, BW9.out⟩
        case measure => decide
      · rw [show ((18 : Nat) : Int) = 18 from rfl]
        have cc : w3.cell? ⟨b, 6, none⟩ = _ := one_cell O.out 6 rfl
        have fc := one_fz O.out 6
        have ks := kp_set1 w3 b 6 (.int .i64 4611686018427387904)
        have A5 := hd (ks.bk A.out (fun e => HNE.out e.symm))
        have O5 : Hid (OwB w.heap.size (w3.setCell ⟨b, 6, none⟩ (.int .i64 4611686018427387904)) (Value.slice (some ⟨b, 0, none⟩) 1 1) [(⟨3, 4, 0, 5, 4611686018427387904, ⟨#[97]⟩, ⟨#[98]⟩, ⟨#[]⟩, []⟩, Value.slice none 0 0)]) := hd (by
          have h := O.out.setS (i := 0) (f := 6) (by simp) (by decide) (s' := ⟨3, 4, 0, 5, 4611686018427387904, ⟨#[97]⟩, ⟨#[98]⟩, ⟨#[]⟩, []⟩) (u := .int .i64 4611686018427387904) rfl rfl
          rw [Nat.zero_mul, Nat.zero_add] at h
          exact h)
        have HB5 := hd (HB3.out.trans (ks.below w.heap.size HB3.out.size (fun j hj e => by have := HBB.out; omega)))
        clear A O HB3
        go_upto_region 46 with fail
        clear cc fc ks
        generalize w3.setCell ⟨b, 6, none⟩ (.int .i64 4611686018427387904) = w5 at *
        have cc : w5.cell? ⟨b, 5, none⟩ = _ := one_cell O5.out 5 rfl
        have fc := one_fz O5.out 5
        have ks := kp_set1 w5 b 5 (.int .i64 4611686018427387904)
        have AW := hd (ks.bk A5.out (fun e => HNE.out e.symm))
        have hsp := one_set (f := 5) (u := .int .i64 4611686018427387904) O5.out (by decide) (⟨3, 4, 0, 4611686018427387904, 4611686018427387904, ⟨#[97]⟩, ⟨#[98]⟩, ⟨#[]⟩, []⟩, Value.slice none 0 0) rfl (El.nilA _)
        have BW := hd (HB5.out.trans (ks.below w.heap.size HB5.out.size (fun j hj e => by have := HBB.out; omega)))
        clear A5 O5 HB5
        go_upto_region 47 with fail
        clear cc fc ks
        generalize w5.setCell ⟨b, 5, none⟩ (.int .i64 4611686018427387904) = w4 at *
        obtain ⟨qsk, hqk⟩ : ∃ q : List SpanV, [(⟨3, 4, 0, 4611686018427387904, 4611686018427387904, ⟨#[97]⟩, ⟨#[98]⟩, ⟨#[]⟩, []⟩, Value.slice none 0 0)] = q := ⟨_, rfl⟩
        have SW : Hid (Sps w4 (Value.slice (some ⟨b, 0, none⟩) 1 1) qsk) := hd (by rw [← hqk]; exact hsp)
        have HQK : Hid ((⟨1, 2, spd qsk⟩ : BatchD) = badBt 18) := hd (by rw [← hqk]; rfl)
        have HWF : Hid (∀ q ∈ qsk, WfS q.1) := hd (by rw [← hqk]; intro q hq; obtain rfl := List.mem_singleton.1 hq; intro a ha; cases ha)
        clear hqk hsp
        have a0 := AW.out.cell 0
        have a1 := AW.out.cell 1
        have a2 := AW.out.cell 2
        simp at a0 a1 a2
        have hok : okB ⟨1, 2, spd qsk⟩ = false := by rw [HQK.out]; exact badBt_not 18 (by decide)
        have HBT := bytesB_any (ag := 1) (sq := 2) SW.out HWF.out
        rw [hok] at HBT
        simp only [Bool.false_eq_true, if_false] at HBT
        go_wp2_with fail
        refine HBT.mono ?_
        rintro e w8 ⟨a8, n8, p8, rfl, hn8, _, hk⟩
        obtain rfl : n8 = 0 := hn8.symm
        have AW8 := hd (AW.out.keep hk)
        have SW8 := hd (SW.out.keep hk)
        have BW8 := hd (below_below BW.out hk)
        clear hk HBT hn8 a0 a1 a2 AW SW BW
        have a0 := AW8.out.cell 0
        have a1 := AW8.out.cell 1
        have a2 := AW8.out.cell 2
        simp at a0 a1 a2
        go_wp2_with fail
        have HC := checkB_any (ag := 1) (sq := 2) SW8.out HWF.out
        rw [hok] at HC
        simp only [Bool.false_eq_true, if_false] at HC
        refine HC.mono ?_
        rintro e w9 ⟨rfl, hk⟩
        have BW9 := hd (below_below BW8.out hk)
        clear hk HC a0 a1 a2 hok
        go_wp2_with fail
        go_roundw
        case rel => exact ⟨19, by decide, rfl, BW9.out⟩
        case measure => decide
      · rw [show ((19 : Nat) : Int) = 19 from rfl]
        have cc : w3.cell? ⟨b, 1, none⟩ = _ := one_cell O.out 1 rfl
        have fc := one_fz O.out 1
        have ks := kp_set1 w3 b 1 (.int .i64 1152921504606846976)
        have AW := hd (ks.bk A.out (fun e => HNE.out e.symm))
        have hsp := one_set (f := 1) (u := .int .i64 1152921504606846976) O.out (by decide) (⟨3, 1152921504606846976, 0, 5, 6, ⟨#[97]⟩, ⟨#[98]⟩, ⟨#[]⟩, []⟩, Value.slice none 0 0) rfl (El.nilA _)
        have BW := hd (HB3.out.trans (ks.below w.heap.size HB3.out.size (fun j hj e => by have := HBB.out; omega)))
        go_upto_region 47 with fail
        clear cc fc ks
        generalize w3.setCell ⟨b, 1, none⟩ (.int .i64 1152921504606846976) = w4 at *
        obtain ⟨qsk, hqk⟩ : ∃ q : List SpanV, [(⟨3, 1152921504606846976, 0, 5, 6, ⟨#[97]⟩, ⟨#[98]⟩, ⟨#[]⟩, []⟩, Value.slice none 0 0)] = q := ⟨_, rfl⟩
        have SW : Hid (Sps w4 (Value.slice (some ⟨b, 0, none⟩) 1 1) qsk) := hd (by rw [← hqk]; exact hsp)
        have HQK : Hid ((⟨1, 2, spd qsk⟩ : BatchD) = badBt 19) := hd (by rw [← hqk]; rfl)
        have HWF : Hid (∀ q ∈ qsk, WfS q.1) := hd (by rw [← hqk]; intro q hq; obtain rfl := List.mem_singleton.1 hq; intro a ha; cases ha)
        clear hqk hsp A O HB3
        have a0 := AW.out.cell 0
        have a1 := AW.out.cell 1
        have a2 := AW.out.cell 2
        simp at a0 a1 a2
        have hok : okB ⟨1, 2, spd qsk⟩ = false := by rw [HQK.out]; exact badBt_not 19 (by decide)
        have HBT := bytesB_any (ag := 1) (sq := 2) SW.out HWF.out
        rw [hok] at HBT
        simp only [Bool.false_eq_true, if_false] at HBT
        go_wp2_with fail
        refine HBT.mono ?_
        rintro e w8 ⟨a8, n8, p8, rfl, hn8, _, hk⟩
        obtain rfl : n8 = 0 := hn8.symm
        have AW8 := hd (AW.out.keep hk)
        have SW8 := hd (SW.out.keep hk)
        have BW8 := hd (below_below BW.out hk)
        clear hk HBT hn8 a0 a1 a2 AW SW BW
        have a0 := AW8.out.cell 0
        have a1 := AW8.out.cell 1
        have a2 := AW8.out.cell 2
        simp at a0 a1 a2
        go_wp2_with fail
        have HC := checkB_any (ag := 1) (sq := 2) SW8.out HWF.out
        rw [hok] at HC
        simp only [Bool.false_eq_true, if_false] at HC
        refine HC.mono ?_
        rintro e w9 ⟨rfl, hk⟩
        have BW9 := hd (below_below BW8.out hk)
        clear hk HC a0 a1 a2 hok
        go_wp2_with fail
        go_roundw
        case rel => exact ⟨20, by decide, rfl, BW9.out⟩
        case measure => decide
    · have hk20 : k = 20 := by omega
      subst hk20
      rw [show ((20 : Nat) : Int) = 20 from rfl]
      clear hk hlt
      generalize wr = w1 at *
      go_wp2_with fail
      refine (chapter_is w1).mono ?_
      rintro e w2 ⟨b, rfl, ho, hk⟩
      have HB2 := hd (below_below HB.out hk)
      have HWR := hd HB.out.size
      clear HB
      have NB := below1 w2 (Obj.cells #[Value.int IntKind.i64 1, Value.int IntKind.i64 2, Value.slice (some ⟨b, 0, none⟩) 1 1] 24)
      have A := hd (Bk.new w2 24 #[Value.int IntKind.i64 1, Value.int IntKind.i64 2, Value.slice (some ⟨b, 0, none⟩) 1 1])
      have O := hd ((ho.lower HWR.out).keep NB)
      have HB3 := hd (below_below HB2.out NB)
      have HGB := hd HB2.out.size
      clear NB ho hk HB2 HWR
      go_upto_region 51 with fail
      generalize w2.alloc (Obj.cells #[Value.int IntKind.i64 1, Value.int IntKind.i64 2, Value.slice (some ⟨b, 0, none⟩) 1 1] 24) = w3 at *
      generalize w2.heap.size = gf at *
      have a0 := A.out.cell 0
      have a1 := A.out.cell 1
      have fa0 := A.out.fz 0
      have fa1 := A.out.fz 1
      simp at a0 a1
      have k1 := kp_set1 w3 gf 0 (.int .i64 16)
      have k2 := kp_set1 (w3.setCell ⟨gf, 0, none⟩ (.int .i64 16)) gf 1 (.int .i64 9007199254740991)
      have hne := O.out.ne A.out (by decide) (by decide)
      have A4 : Hid (Bk ((w3.setCell ⟨gf, 0, none⟩ (.int .i64 16)).setCell ⟨gf, 1, none⟩ (.int .i64 9007199254740991)) gf 24 #[Value.int IntKind.i64 16, Value.int IntKind.i64 9007199254740991, Value.slice (some ⟨b, 0, none⟩) 1 1]) := hd ((A.out.set 0 _).set 1 _)
      have O4 := hd ((O.out.kpx k1 hne.1 hne.2).kpx k2 hne.1 hne.2)
      have B4 := hd (HB3.out.trans ((k1.trans k2).below w.heap.size HB3.out.size (fun j hj e => by have := HGB.out; omega)))
      go_upto_region 53 with fail
      clear a0 a1 fa0 fa1 k1 k2 hne A O HB3
      generalize (w3.setCell ⟨gf, 0, none⟩ (.int .i64 16)).setCell ⟨gf, 1, none⟩ (.int .i64 9007199254740991) = w4 at *
      have a2 := A4.out.cell 2
      simp at a2
      have s0 : w4.cell? ⟨b, 0, none⟩ = some (.int .i64 3) := one_cell O4.out 0 rfl
      have s1 : w4.cell? ⟨b, 1, none⟩ = some (.int .i64 4) := one_cell O4.out 1 rfl
      have s2 : w4.cell? ⟨b, 2, none⟩ = some (.int .i64 0) := one_cell O4.out 2 rfl
      have s3 : w4.cell? ⟨b, 3, none⟩ = some (.string ⟨#[97]⟩) := one_cell O4.out 3 rfl
      have s4 : w4.cell? ⟨b, 4, none⟩ = some (.string ⟨#[98]⟩) := one_cell O4.out 4 rfl
      have s5 : w4.cell? ⟨b, 5, none⟩ = some (.int .i64 5) := one_cell O4.out 5 rfl
      have s6 : w4.cell? ⟨b, 6, none⟩ = some (.int .i64 6) := one_cell O4.out 6 rfl
      have s7 : w4.cell? ⟨b, 7, none⟩ = some (.string ⟨#[]⟩) := one_cell O4.out 7 rfl
      have s8 : w4.cell? ⟨b, 8, none⟩ = some (.slice none 0 0) := one_cell O4.out 8 rfl
      have NB := below1 w4 (Obj.cells #[Value.int IntKind.i64 3, Value.int IntKind.i64 4, Value.int IntKind.i64 0, Value.string ⟨#[97]⟩, Value.string ⟨#[98]⟩, Value.int IntKind.i64 5, Value.int IntKind.i64 6, Value.string ⟨#[]⟩, Value.slice none 0 0] 36)
      have D5 := hd (Bk.new w4 36 #[Value.int IntKind.i64 3, Value.int IntKind.i64 4, Value.int IntKind.i64 0, Value.string ⟨#[97]⟩, Value.string ⟨#[98]⟩, Value.int IntKind.i64 5, Value.int IntKind.i64 6, Value.string ⟨#[]⟩, Value.slice none 0 0])
      have A5 := hd (A4.out.keep NB)
      have B5 := hd (below_below B4.out NB)
      have HGF := hd A4.out.lt
      have HWS := hd B4.out.size
      clear NB A4 O4 B4
      go_upto_region 54 with fail
      clear a2 s0 s1 s2 s3 s4 s5 s6 s7 s8
      generalize w4.alloc (Obj.cells #[Value.int IntKind.i64 3, Value.int IntKind.i64 4, Value.int IntKind.i64 0, Value.string ⟨#[97]⟩, Value.string ⟨#[98]⟩, Value.int IntKind.i64 5, Value.int IntKind.i64 6, Value.string ⟨#[]⟩, Value.slice none 0 0] 36) = w5 at *
      generalize w4.heap.size = gs at *
      go_wp2_with fail
      refine (repeat_one 115 64 w5 (by omega)).mono ?_
      rintro e w6 ⟨rfl, hk⟩
      have D6 := hd (D5.out.keep hk)
      have A6 := hd (A5.out.keep hk)
      have B6 := hd (below_below B5.out hk)
      clear hk D5 A5 B5
      have d7 := D6.out.cell 7
      have d6 := D6.out.cell 6
      have f7 := D6.out.fz 7
      have f6 := D6.out.fz 6
      simp at d7 d6
      have k1 := kp_set1 w6 gs 7 (.string ⟨Array.replicate 64 115⟩)
      have k2 := kp_set1 (w6.setCell ⟨gs, 7, none⟩ (.string ⟨Array.replicate 64 115⟩)) gs 6 (.int .i64 9007199254740986)
      have D7 : Hid (Bk ((w6.setCell ⟨gs, 7, none⟩ (.string ⟨Array.replicate 64 115⟩)).setCell ⟨gs, 6, none⟩ (.int .i64 9007199254740986)) gs 36 #[Value.int IntKind.i64 3, Value.int IntKind.i64 4, Value.int IntKind.i64 0, Value.string ⟨#[97]⟩, Value.string ⟨#[98]⟩, Value.int IntKind.i64 5, Value.int IntKind.i64 9007199254740986, Value.string ⟨Array.replicate 64 115⟩, Value.slice none 0 0]) := hd ((D6.out.set 7 _).set 6 _)
      have A7 := hd ((k1.trans k2).bk A6.out (by have := HGF.out; omega))
      have B7 := hd (B6.out.trans ((k1.trans k2).below w.heap.size B6.out.size (fun j hj e => by have := HWS.out; omega)))
      go_upto_region 56 with fail
      clear d7 d6 f7 f6 k1 k2 D6 A6 B6
      generalize (w6.setCell ⟨gs, 7, none⟩ (.string ⟨Array.replicate 64 115⟩)).setCell ⟨gs, 6, none⟩ (.int .i64 9007199254740986) = w7 at *
      go_wp2_with fail
      refine (repeat_one 115 24 w7 (by omega)).mono ?_
      rintro e w8 ⟨rfl, hk⟩
      have D8 := hd (D7.out.keep hk)
      have A8 := hd (A7.out.keep hk)
      have B8 := hd (below_below B7.out hk)
      clear hk D7 A7 B7
      have d3 := D8.out.cell 3
      have f3 := D8.out.fz 3
      simp at d3
      have k1 := kp_set1 w8 gs 3 (.string ⟨Array.replicate 24 115⟩)
      have D9 : Hid (Bk (w8.setCell ⟨gs, 3, none⟩ (.string ⟨Array.replicate 24 115⟩)) gs 36 #[Value.int IntKind.i64 3, Value.int IntKind.i64 4, Value.int IntKind.i64 0, Value.string ⟨Array.replicate 24 115⟩, Value.string ⟨#[98]⟩, Value.int IntKind.i64 5, Value.int IntKind.i64 9007199254740986, Value.string ⟨Array.replicate 64 115⟩, Value.slice none 0 0]) := hd (D8.out.set 3 _)
      have A9 := hd (k1.bk A8.out (by have := HGF.out; omega))
      have B9 := hd (B8.out.trans (k1.below w.heap.size B8.out.size (fun j hj e => by have := HWS.out; omega)))
      go_upto_region 57 with fail
      clear d3 f3 k1 D8 A8 B8
      generalize w8.setCell ⟨gs, 3, none⟩ (.string ⟨Array.replicate 24 115⟩) = w9 at *
      have HN2 : Hid (gf < w9.heap.size ∧ gs < w9.heap.size ∧ gf ≠ gs ∧ w.heap.size ≤ gf ∧ w.heap.size ≤ gs ∧ w.heap.size ≤ w9.heap.size) := hd ⟨A9.out.lt, D9.out.lt, by have := HGF.out; omega, HGB.out, HWS.out, B9.out.size⟩
      generalize hN2 : w9.heap.size = N2 at *
      go_wp2_with fail
      go_loopw [8] (fun i wr => ∃ k : Nat, k ≤ 8 ∧ i = .int .i64 (k : Int) ∧ Below w.heap.size w wr ∧ Bk wr gf 24 #[Value.int IntKind.i64 16, Value.int IntKind.i64 9007199254740991, Value.slice (some ⟨b, 0, none⟩) 1 1] ∧ N2 ≤ wr.heap.size ∧ ∃ y cp, Bk wr gs 36 #[Value.int IntKind.i64 3, Value.int IntKind.i64 4, Value.int IntKind.i64 0, Value.string ⟨Array.replicate 24 115⟩, Value.string ⟨#[98]⟩, Value.int IntKind.i64 5, Value.int IntKind.i64 9007199254740986, Value.string ⟨Array.replicate 64 115⟩, Value.slice y k cp] ∧ OwA N2 wr (Value.slice y k cp) ((List.range k).map atN)) (fun i _ => 8 - (intOf i).toNat)
      case atStart => exact ⟨0, Nat.zero_le _, rfl, B9.out, A9.out, by omega, none, 0, D9.out, OwA.nil _ _⟩
      case round =>
        obtain ⟨k, hk8, rfl, hb, ha, hn, y, cp, hdd, ho⟩ := hrel
        have HBK := hd hb; have HA := hd ha; have HNW := hd hn; have HD := hd hdd; have HO := hd ho
        clear hb ha hn hdd ho A9 D9 B9
        by_cases hlt : k < 8
        · have hlt' : (k : Int) < 8 := by omega
          have HLT := hd hlt
          have HNG : Hid (∀ j, (Value.slice y k cp).ownBlock = some j → N2 ≤ j) := hd (fun j hj => (HO.out.2.lt j hj).1)
          have HNO : Hid (∀ j, (Value.slice y k cp).ownBlock = some j → j < wr.heap.size) := hd (fun j hj => (HO.out.2.lt j hj).2)
          have hw1 : IntKind.i64.wrap ((97 : Int) + (k : Int)) = 97 + (k : Int) := by rw [IntKind.wrap_i64]; omega
          have hw2 : IntKind.u8.wrap ((97 : Int) + (k : Int)) = 97 + (k : Int) := by show (97 + (k : Int)) % 256 = _; omega
          obtain ⟨t, ht⟩ : ∃ t, strOfNums [97 + (k : Int)] = t := ⟨_, rfl⟩
          obtain ⟨nm, hnm⟩ : ∃ nm, (atN k).1 = nm := ⟨_, rfl⟩
          have HNM : Hid ((⟨#[97, 116, 116, 114, 105, 98, 117, 116, 101, 45, 110, 117, 109, 98, 101, 114, 45]⟩ : ByteArray) ++ t = nm) := hd (by
            rw [← ht, ← hnm]
            exact atN_name k hlt)
          have HTT := hd ht
          have HTS : Hid (t.size = 1) := hd (by rw [← ht]; rfl)
          have HATN : Hid (atN k = (nm, 7, 0, 2, 0, ⟨Array.replicate 64 118⟩)) := hd (by rw [← hnm]; rfl)
          have hls : ((List.range k).map atN).length = k := by simp
          have HLS := hd hls
          have HB0 : Hid (wr.drew.heap.size = wr.heap.size) := hd rfl
          clear hlt hk8 ht hnm hls
          go_wp2_with fail
          refine wp_region_eachL 15 (fun W W' => Kp (fun b => (Value.slice y k cp).ownBlock = some b) W W') (fun i v W => match i with | 0 => v = Value.pointer (some ⟨gs, 8, none⟩) | 1 => v = Value.slice y k cp | 2 => v = Value.int IntKind.i64 (k : Int) | 3 => v = Value.int IntKind.i64 (97 + (k : Int)) | 4 => v = Value.int IntKind.u8 (97 + (k : Int)) | 5 => ∃ g, v = Value.slice (some ⟨g, 0, none⟩) 1 1 ∧ (Value.slice y k cp).ownBlock ≠ some g ∧ Bk W g 5 #[Value.int IntKind.u8 (97 + (k : Int))] | 6 => v = Value.string t | 7 => v = Value.string nm | 8 => v = Value.agg #[Value.int IntKind.i64 7, Value.int IntKind.u32 0] | 9 => v = Value.string ⟨Array.replicate 64 118⟩ | 10 => v = Value.agg #[Value.int IntKind.i64 2, Value.int IntKind.i64 0, Value.string ⟨Array.replicate 64 118⟩] | 11 => v = Value.agg #[Value.string nm, Value.int IntKind.i64 7, Value.int IntKind.u32 0, Value.int IntKind.i64 2, Value.int IntKind.i64 0, Value.string ⟨Array.replicate 64 118⟩] | 12 => ∃ g, v = Value.slice (some ⟨g, 0, none⟩) 1 1 ∧ (Value.slice y k cp).ownBlock ≠ some g ∧ Bk W g 44 #[Value.string nm, Value.int IntKind.i64 7, Value.int IntKind.u32 0, Value.int IntKind.i64 2, Value.int IntKind.i64 0, Value.string ⟨Array.replicate 64 118⟩] | 13 => True | 14 => v = Value.pointer (some ⟨gs, 8, none⟩) | _ => True) (fun L vs W => Kp (fun b => (Value.slice y k cp).ownBlock = some b) wr W ∧ (L 13 = false → OwA N2 W (Value.slice y k cp) ((List.range k).map atN)) ∧ (L 13 = true → OwA N2 W (vs.getD 13 undef) ((List.range k).map atN ++ [atN k]))) (by kernel_rfl) (by kernel_rfl) (fun j v W W' hE h => by
              match j with
              | 0 => exact h
              | 1 => exact h
              | 2 => exact h
              | 3 => exact h
              | 4 => exact h
              | 5 => exact (by obtain ⟨g, h1, h2, h3⟩ := h; exact ⟨g, h1, h2, hE.bk h3 h2⟩)
              | 6 => exact h
              | 7 => exact h
              | 8 => exact h
              | 9 => exact h
              | 10 => exact h
              | 11 => exact h
              | 12 => exact (by obtain ⟨g, h1, h2, h3⟩ := h; exact ⟨g, h1, h2, hE.bk h3 h2⟩)
              | 13 => exact h
              | 14 => exact h
              | _ + 15 => trivial) (⟨(Kp.refl _ _).drew, fun _ => HO.out.drew, fun hh => by cases hh⟩) ?_ ?_
          · simp only [List.take_succ_cons, List.take_zero]
            refine EachL.start (fun A hA => ?_)
            have PUTS : ∀ v0 v1 v2 v3 v4 v5 v6 v7 v8 v9 v10 v11 v12 v13 v14 : Value, A [v0, v1, v2, v3, v4, v5, v6, v7, v8, v9, v10, v11, v12, v13, v14] = A [v0, v1, v2, v3, v4, v5, v6, v7, v8, v9, v10, v11, v12, v13, v14] := fun v0 v1 v2 v3 v4 v5 v6 v7 v8 v9 v10 v11 v12 v13 v14 => rfl
            conv at PUTS => intro v0 v1 v2 v3 v4 v5 v6 v7 v8 v9 v10 v11 v12 v13 v14; rhs; rw [hA]; simp only [puts, Act.put, List.setIfInBounds_toArray, List.set_cons_zero, List.set_cons_succ]
            refine EachL.consA A hA (fun vs W L hl => ?_) ?_
            · apply with15 hl
              clear hl vs
              intro v0 v1 v2 v3 v4 v5 v6 v7 v8 v9 v10 v11 v12 v13 v14 hg hd hno hcl hdp K hK
              clear hd
              rw [if_pos (by rw [PUTS]; kernel_rfl)]
              simp only [PUTS, Act.put, List.setIfInBounds_toArray, List.set_cons_zero, List.set_cons_succ] at hK ⊢
              go_simp
              exact hK _ _ (Kp.refl _ _) (by first | rfl | simp [hw1, hw2]) hg
            refine EachL.consA A hA (fun vs W L hl => ?_) ?_
            · apply with15 hl
              clear hl vs
              intro v0 v1 v2 v3 v4 v5 v6 v7 v8 v9 v10 v11 v12 v13 v14 hg hd hno hcl hdp K hK
              have d0 : v0 = Value.pointer (some ⟨gs, 8, none⟩) := hd 0 v0 (by kernel_rfl) rfl
              subst d0
              clear hd
              rw [if_pos (by rw [PUTS]; kernel_rfl)]
              simp only [PUTS, Act.put, List.setIfInBounds_toArray, List.set_cons_zero, List.set_cons_succ] at hK ⊢
              have c := hg.1.bk HD.out (fun e => by have h1 := HNG.out _ e; have := HN2.out; omega)
              have c8 := c.cell 8
              simp at c8
              go_simp
              exact hK _ _ (Kp.refl _ _) (by first | rfl | simp [hw1, hw2]) hg
            refine EachL.consA A hA (fun vs W L hl => ?_) ?_
            · apply with15 hl
              clear hl vs
              intro v0 v1 v2 v3 v4 v5 v6 v7 v8 v9 v10 v11 v12 v13 v14 hg hd hno hcl hdp K hK
              clear hd
              rw [if_pos (by rw [PUTS]; kernel_rfl)]
              simp only [PUTS, Act.put, List.setIfInBounds_toArray, List.set_cons_zero, List.set_cons_succ] at hK ⊢
              go_simp
              exact hK _ _ (Kp.refl _ _) (by first | rfl | simp [hw1, hw2]) hg
            refine EachL.consA A hA (fun vs W L hl => ?_) ?_
            · apply with15 hl
              clear hl vs
              intro v0 v1 v2 v3 v4 v5 v6 v7 v8 v9 v10 v11 v12 v13 v14 hg hd hno hcl hdp K hK
              have d2 : v2 = Value.int IntKind.i64 (k : Int) := hd 2 v2 (by kernel_rfl) rfl
              subst d2
              clear hd
              rw [if_pos (by rw [PUTS]; kernel_rfl)]
              simp only [PUTS, Act.put, List.setIfInBounds_toArray, List.set_cons_zero, List.set_cons_succ] at hK ⊢
              go_simp
              exact hK _ _ (Kp.refl _ _) (by first | rfl | simp [hw1, hw2]) hg
            refine EachL.consA A hA (fun vs W L hl => ?_) ?_
            · apply with15 hl
              clear hl vs
              intro v0 v1 v2 v3 v4 v5 v6 v7 v8 v9 v10 v11 v12 v13 v14 hg hd hno hcl hdp K hK
              have d3 : v3 = Value.int IntKind.i64 (97 + (k : Int)) := hd 3 v3 (by kernel_rfl) rfl
              subst d3
              clear hd
              rw [if_pos (by rw [PUTS]; kernel_rfl)]
              simp only [PUTS, Act.put, List.setIfInBounds_toArray, List.set_cons_zero, List.set_cons_succ] at hK ⊢
              go_simp
              exact hK _ _ (Kp.refl _ _) (by first | rfl | simp [hw1, hw2]) hg
            refine EachL.consA A hA (fun vs W L hl => ?_) ?_
            · apply with15 hl
              clear hl vs
              intro v0 v1 v2 v3 v4 v5 v6 v7 v8 v9 v10 v11 v12 v13 v14 hg hd hno hcl hdp K hK
              have d4 : v4 = Value.int IntKind.u8 (97 + (k : Int)) := hd 4 v4 (by kernel_rfl) rfl
              subst d4
              clear hd
              rw [if_pos (by rw [PUTS]; kernel_rfl)]
              simp only [PUTS, Act.put, List.setIfInBounds_toArray, List.set_cons_zero, List.set_cons_succ] at hK ⊢
              have NB := below1 W (Obj.cells #[Value.int IntKind.u8 (97 + (k : Int))] 5)
              have hws := hg.1.size
              go_simp
              exact hK _ _ (kpB NB _) ⟨W.heap.size, rfl, (fun e => by have h1 := HNO.out _ e; have h2 := HB0.out; omega), Bk.new W 5 _⟩ ⟨hg.1.trans (kpB NB _), fun h => (hg.2.1 h).keep NB, fun h => (hg.2.2 h).keep NB⟩
            refine EachL.consA A hA (fun vs W L hl => ?_) ?_
            · apply with15 hl
              clear hl vs
              intro v0 v1 v2 v3 v4 v5 v6 v7 v8 v9 v10 v11 v12 v13 v14 hg hd hno hcl hdp K hK
              have d5 : ∃ g, v5 = Value.slice (some ⟨g, 0, none⟩) 1 1 ∧ (Value.slice y k cp).ownBlock ≠ some g ∧ Bk W g 5 #[Value.int IntKind.u8 (97 + (k : Int))] := hd 5 v5 (by kernel_rfl) rfl
              clear hd
              rw [if_pos (by rw [PUTS]; kernel_rfl)]
              simp only [PUTS, Act.put, List.setIfInBounds_toArray, List.set_cons_zero, List.set_cons_succ] at hK ⊢
              obtain ⟨g, rfl, hgo, hgb⟩ := d5
              have hcv := conv_bs (bs_of_one hgb (by have := HLT.out; omega))
              rw [HTT.out] at hcv
              go_simp
              first
              | exact hK _ _ (Kp.refl _ _) rfl hg
              | (simp only [hcv]; exact hK _ _ (Kp.refl _ _) rfl hg)
            refine EachL.consA A hA (fun vs W L hl => ?_) ?_
            · apply with15 hl
              clear hl vs
              intro v0 v1 v2 v3 v4 v5 v6 v7 v8 v9 v10 v11 v12 v13 v14 hg hd hno hcl hdp K hK
              have d6 : v6 = Value.string t := hd 6 v6 (by kernel_rfl) rfl
              subst d6
              clear hd
              rw [if_pos (by rw [PUTS]; kernel_rfl)]
              simp only [PUTS, Act.put, List.setIfInBounds_toArray, List.set_cons_zero, List.set_cons_succ] at hK ⊢
              have hts : ¬ 9223372036854775807 < 17 + t.size := by rw [HTS.out]; decide
              go_simp
              rw [HNM.out]
              exact hK _ _ (Kp.refl _ _) rfl hg
            refine EachL.consA A hA (fun vs W L hl => ?_) ?_
            · apply with15 hl
              clear hl vs
              intro v0 v1 v2 v3 v4 v5 v6 v7 v8 v9 v10 v11 v12 v13 v14 hg hd hno hcl hdp K hK
              clear hd
              rw [if_pos (by rw [PUTS]; kernel_rfl)]
              simp only [PUTS, Act.put, List.setIfInBounds_toArray, List.set_cons_zero, List.set_cons_succ] at hK ⊢
              go_simp
              exact hK _ _ (Kp.refl _ _) (by first | rfl | simp [hw1, hw2]) hg
            refine EachL.consA A hA (fun vs W L hl => ?_) ?_
            · apply with15 hl
              clear hl vs
              intro v0 v1 v2 v3 v4 v5 v6 v7 v8 v9 v10 v11 v12 v13 v14 hg hd hno hcl hdp K hK
              clear hd
              rw [if_pos (by rw [PUTS]; kernel_rfl)]
              simp only [PUTS, Act.put, List.setIfInBounds_toArray, List.set_cons_zero, List.set_cons_succ] at hK ⊢
              go_simp
              refine (repeat_one 118 64 W (by omega)).mono ?_
              rintro e w' ⟨rfl, hk⟩
              exact hK _ _ (kpB hk _) rfl ⟨hg.1.trans (kpB hk _), fun h => (hg.2.1 h).keep hk, fun h => (hg.2.2 h).keep hk⟩
            refine EachL.consA A hA (fun vs W L hl => ?_) ?_
            · apply with15 hl
              clear hl vs
              intro v0 v1 v2 v3 v4 v5 v6 v7 v8 v9 v10 v11 v12 v13 v14 hg hd hno hcl hdp K hK
              have d9 : v9 = Value.string ⟨Array.replicate 64 118⟩ := hd 9 v9 (by kernel_rfl) rfl
              subst d9
              clear hd
              rw [if_pos (by rw [PUTS]; kernel_rfl)]
              simp only [PUTS, Act.put, List.setIfInBounds_toArray, List.set_cons_zero, List.set_cons_succ] at hK ⊢
              go_simp
              exact hK _ _ (Kp.refl _ _) (by first | rfl | simp [hw1, hw2]) hg
            refine EachL.consA A hA (fun vs W L hl => ?_) ?_
            · apply with15 hl
              clear hl vs
              intro v0 v1 v2 v3 v4 v5 v6 v7 v8 v9 v10 v11 v12 v13 v14 hg hd hno hcl hdp K hK
              have d7 : v7 = Value.string nm := hd 7 v7 (by kernel_rfl) rfl
              subst d7
              have d8 : v8 = Value.agg #[Value.int IntKind.i64 7, Value.int IntKind.u32 0] := hd 8 v8 (by kernel_rfl) rfl
              subst d8
              have d10 : v10 = Value.agg #[Value.int IntKind.i64 2, Value.int IntKind.i64 0, Value.string ⟨Array.replicate 64 118⟩] := hd 10 v10 (by kernel_rfl) rfl
              subst d10
              clear hd
              rw [if_pos (by rw [PUTS]; kernel_rfl)]
              simp only [PUTS, Act.put, List.setIfInBounds_toArray, List.set_cons_zero, List.set_cons_succ] at hK ⊢
              go_simp
              exact hK _ _ (Kp.refl _ _) (by first | rfl | simp [hw1, hw2]) hg
            refine EachL.consA A hA (fun vs W L hl => ?_) ?_
            · apply with15 hl
              clear hl vs
              intro v0 v1 v2 v3 v4 v5 v6 v7 v8 v9 v10 v11 v12 v13 v14 hg hd hno hcl hdp K hK
              have d11 : v11 = Value.agg #[Value.string nm, Value.int IntKind.i64 7, Value.int IntKind.u32 0, Value.int IntKind.i64 2, Value.int IntKind.i64 0, Value.string ⟨Array.replicate 64 118⟩] := hd 11 v11 (by kernel_rfl) rfl
              subst d11
              clear hd
              rw [if_pos (by rw [PUTS]; kernel_rfl)]
              simp only [PUTS, Act.put, List.setIfInBounds_toArray, List.set_cons_zero, List.set_cons_succ] at hK ⊢
              have NB := below1 W (Obj.cells #[Value.string nm, Value.int IntKind.i64 7, Value.int IntKind.u32 0, Value.int IntKind.i64 2, Value.int IntKind.i64 0, Value.string ⟨Array.replicate 64 118⟩] 44)
              have hws := hg.1.size
              go_simp
              exact hK _ _ (kpB NB _) ⟨W.heap.size, rfl, (fun e => by have h1 := HNO.out _ e; have h2 := HB0.out; omega), Bk.new W 44 _⟩ ⟨hg.1.trans (kpB NB _), fun h => (hg.2.1 h).keep NB, fun h => (hg.2.2 h).keep NB⟩
            refine EachL.consA A hA (fun vs W L hl => ?_) ?_
            · apply with15 hl
              clear hl vs
              intro v0 v1 v2 v3 v4 v5 v6 v7 v8 v9 v10 v11 v12 v13 v14 hg hd hno hcl hdp K hK
              have d1 : v1 = Value.slice y k cp := hd 1 v1 (by kernel_rfl) rfl
              subst d1
              have d12 : ∃ g, v12 = Value.slice (some ⟨g, 0, none⟩) 1 1 ∧ (Value.slice y k cp).ownBlock ≠ some g ∧ Bk W g 44 #[Value.string nm, Value.int IntKind.i64 7, Value.int IntKind.u32 0, Value.int IntKind.i64 2, Value.int IntKind.i64 0, Value.string ⟨Array.replicate 64 118⟩] := hd 12 v12 (by kernel_rfl) rfl
              clear hd
              rw [if_pos (by rw [PUTS]; kernel_rfl)]
              simp only [PUTS, Act.put, List.setIfInBounds_toArray, List.set_cons_zero, List.set_cons_succ] at hK ⊢
              obtain ⟨g, rfl, hgo, hgb⟩ := d12
              have hoa := hg.2.1 hno
              obtain ⟨v', w', hrn, ho', hk', hkp⟩ := hoa.app' (a := (nm, 7, 0, 2, 0, ⟨Array.replicate 64 118⟩)) hgb (by have := hg.1.size; have := HNW.out; omega) (by have := HLS.out; have := HLT.out; omega) 34
              skip
              refine Lib.wp_append_run W _ _ 34 34 rfl _ _ rfl rfl v' w' hrn ?_
              exact hK _ _ hkp trivial ⟨hg.1.trans hkp, (fun hh => by cases hh), fun _ => by rw [HATN.out]; exact ho'⟩
            refine EachL.consA A hA (fun vs W L hl => ?_) ?_
            · apply with15 hl
              clear hl vs
              intro v0 v1 v2 v3 v4 v5 v6 v7 v8 v9 v10 v11 v12 v13 v14 hg hd hno hcl hdp K hK
              clear hd
              rw [if_pos (by rw [PUTS]; kernel_rfl)]
              simp only [PUTS, Act.put, List.setIfInBounds_toArray, List.set_cons_zero, List.set_cons_succ] at hK ⊢
              go_simp
              exact hK _ _ (Kp.refl _ _) (by first | rfl | simp [hw1, hw2]) hg
            exact EachL.nil
          · intro vs W L hl
            apply with15 hl
            clear hl vs
            intro v0 v1 v2 v3 v4 v5 v6 v7 v8 v9 v10 v11 v12 v13 v14 hall0 hg hall
            have d0 : v0 = Value.pointer (some ⟨gs, 8, none⟩) := hall 0 v0 rfl
            subst d0
            have d1 : v1 = Value.slice y k cp := hall 1 v1 rfl
            subst d1
            have d2 : v2 = Value.int IntKind.i64 (k : Int) := hall 2 v2 rfl
            subst d2
            have d3 : v3 = Value.int IntKind.i64 (97 + (k : Int)) := hall 3 v3 rfl
            subst d3
            have d4 : v4 = Value.int IntKind.u8 (97 + (k : Int)) := hall 4 v4 rfl
            subst d4
            have d5 : ∃ g, v5 = Value.slice (some ⟨g, 0, none⟩) 1 1 ∧ (Value.slice y k cp).ownBlock ≠ some g ∧ Bk W g 5 #[Value.int IntKind.u8 (97 + (k : Int))] := hall 5 v5 rfl
            have d6 : v6 = Value.string t := hall 6 v6 rfl
            subst d6
            have d7 : v7 = Value.string nm := hall 7 v7 rfl
            subst d7
            have d8 : v8 = Value.agg #[Value.int IntKind.i64 7, Value.int IntKind.u32 0] := hall 8 v8 rfl
            subst d8
            have d9 : v9 = Value.string ⟨Array.replicate 64 118⟩ := hall 9 v9 rfl
            subst d9
            have d10 : v10 = Value.agg #[Value.int IntKind.i64 2, Value.int IntKind.i64 0, Value.string ⟨Array.replicate 64 118⟩] := hall 10 v10 rfl
            subst d10
            have d11 : v11 = Value.agg #[Value.string nm, Value.int IntKind.i64 7, Value.int IntKind.u32 0, Value.int IntKind.i64 2, Value.int IntKind.i64 0, Value.string ⟨Array.replicate 64 118⟩] := hall 11 v11 rfl
            subst d11
            have d12 : ∃ g, v12 = Value.slice (some ⟨g, 0, none⟩) 1 1 ∧ (Value.slice y k cp).ownBlock ≠ some g ∧ Bk W g 44 #[Value.string nm, Value.int IntKind.i64 7, Value.int IntKind.u32 0, Value.int IntKind.i64 2, Value.int IntKind.i64 0, Value.string ⟨Array.replicate 64 118⟩] := hall 12 v12 rfl
            have d13 : True := hall 13 v13 rfl
            have d14 : v14 = Value.pointer (some ⟨gs, 8, none⟩) := hall 14 v14 rfl
            subst d14
            clear hall
            simp only [puts, Act.put, List.setIfInBounds_toArray, List.set_cons_zero, List.set_cons_succ, List.take_succ_cons, List.take_zero, List.drop_succ_cons, List.drop_zero]
            have ho13 : OwA N2 W v13 ((List.range k).map atN ++ [atN k]) := hg.2.2 (hall0 13 (by decide))
            have hkp := hg.1
            obtain ⟨y2, cp2, hc⟩ := ho13.form
            rw [List.length_append, HLS.out] at hc
            simp only [List.length_singleton] at hc
            subst hc
            have D2 := hkp.bk HD.out (fun e => by have h1 := HNG.out _ e; have := HN2.out; omega)
            have A2 := hkp.bk HA.out (fun e => by have h1 := HNG.out _ e; have := HN2.out; omega)
            have B2 := HBK.out.trans (hkp.below w.heap.size HBK.out.size (fun j hj e => by have h1 := HNG.out _ e; have := HN2.out; omega))
            have c8 := D2.cell 8
            have f8 := D2.fz 8
            simp at c8
            have ks := kp_set1 W gs 8 (Value.slice y2 (k + 1) cp2)
            have HD3 : Hid (Bk (W.setCell ⟨gs, 8, none⟩ (Value.slice y2 (k + 1) cp2)) gs 36 #[Value.int IntKind.i64 3, Value.int IntKind.i64 4, Value.int IntKind.i64 0, Value.string ⟨Array.replicate 24 115⟩, Value.string ⟨#[98]⟩, Value.int IntKind.i64 5, Value.int IntKind.i64 9007199254740986, Value.string ⟨Array.replicate 64 115⟩, Value.slice y2 (k + 1) cp2]) := hd (D2.set 8 _)
            have HA3 := hd (ks.bk A2 (by have := HN2.out; omega))
            have HO3 := hd (ho13.kp ks (by have := HN2.out; omega))
            have HB3 := hd (B2.trans (ks.below w.heap.size B2.size (fun j hj e => by have := HN2.out; omega)))
            have HN3 : Hid (N2 ≤ (W.setCell ⟨gs, 8, none⟩ (Value.slice y2 (k + 1) cp2)).heap.size) := hd (Nat.le_trans (Nat.le_trans HNW.out hkp.size) ks.size)
            clear hg hall0 d5 d12 d13 ho13 hkp D2 A2 B2 ks HD HA HO HBK HNW HNG HNO
            go_wp2_with fail
            clear c8 f8
            generalize W.setCell ⟨gs, 8, none⟩ (Value.slice y2 (k + 1) cp2) = w12 at *
            go_roundw
            case rel => exact ⟨k + 1, by have := HLT.out; omega, by go_num, HB3.out, HA3.out, HN3.out, y2, cp2, HD3.out, by rw [List.range_succ, List.map_append]; exact HO3.out⟩
            case measure => simp [intOf]; have := HLT.out; omega
        · have hk88 : k = 8 := by omega
          subst hk88
          rw [show ((8 : Nat) : Int) = 8 from rfl]
          clear hlt hk8
          have a2 := HA.out.cell 2
          have f2 := HA.out.fz 2
          simp at a2
          have ks := kp_set1 wr gf 2 (Value.slice none 0 0)
          have A10 : Hid (Bk (wr.setCell ⟨gf, 2, none⟩ (Value.slice none 0 0)) gf 24 #[Value.int IntKind.i64 16, Value.int IntKind.i64 9007199254740991, Value.slice none 0 0]) := hd (HA.out.set 2 _)
          have D10 := hd (ks.bk HD.out (by have := HN2.out; omega))
          have T10 := hd (HO.out.kp ks (by have := HN2.out; omega))
          have B10 := hd (HBK.out.trans (ks.below w.heap.size HBK.out.size (fun j hj e => by have := HN2.out; omega)))
          have HNW2 : Hid (N2 ≤ (wr.setCell ⟨gf, 2, none⟩ (Value.slice none 0 0)).heap.size) := hd (Nat.le_trans HNW.out ks.size)
          clear HA HD HO HBK HNW ks
          go_upto_region 62 with fail
          clear a2 f2
          generalize wr.setCell ⟨gf, 2, none⟩ (Value.slice none 0 0) = w10 at *
          have HG8 : Hid (∀ g, (Value.slice y 8 cp).ownBlock = some g → g < w10.heap.size) := hd (fun g hg => (T10.out.2.lt g hg).2)
          have HN3 : Hid (gf < w10.heap.size ∧ gs < w10.heap.size) := hd ⟨A10.out.lt, D10.out.lt⟩
          have HATS : Hid ((List.range 8).map atN = fuS.ats) := hd rfl
          rw [HATS.out] at T10
          obtain ⟨N3, hN3⟩ : ∃ N, w10.heap.size = N := ⟨_, rfl⟩
          rw [hN3] at HG8 HN3
          have HN3W := hd hN3
          clear hN3
          go_wp2_with fail
          go_loopw [9] (fun i wr => ∃ k : Nat, k ≤ 9 ∧ i = .int .i64 (k : Int) ∧ Below w.heap.size w wr ∧ N3 ≤ wr.heap.size ∧ Bk wr gs 36 #[Value.int IntKind.i64 3, Value.int IntKind.i64 4, Value.int IntKind.i64 0, Value.string ⟨Array.replicate 24 115⟩, Value.string ⟨#[98]⟩, Value.int IntKind.i64 5, Value.int IntKind.i64 9007199254740986, Value.string ⟨Array.replicate 64 115⟩, Value.slice y 8 cp] ∧ OwA N2 wr (Value.slice y 8 cp) fuS.ats ∧ ∃ x c, Bk wr gf 24 #[Value.int IntKind.i64 16, Value.int IntKind.i64 9007199254740991, Value.slice x (0 + k) c] ∧ OwS N3 wr (Value.slice x (0 + k) c) (List.replicate (0 + k) (fuS, Value.slice y 8 cp))) (fun i _ => 9 - (intOf i).toNat)
          case atStart => exact ⟨0, Nat.zero_le _, rfl, B10.out, by rw [HN3W.out]; exact Nat.le_refl _, D10.out, T10.out, none, 0, A10.out, OwS.nil _ _⟩
          case round =>
            obtain ⟨k, hku, rfl, hb, hn, hdd, ht, x, c, ha, ho⟩ := hrel
            obtain ⟨kk, hkk⟩ : ∃ kk, 0 + k = kk := ⟨_, rfl⟩
            rw [hkk] at ha ho
            have HBK := hd hb; have HNW := hd hn; have HD := hd hdd; have HT := hd ht; have HA := hd ha; have HO := hd ho; have HKK := hd hkk
            clear hb hn hdd ht ha ho hkk A10 D10 T10 B10 HNW2
            by_cases hlt : k < 9
            · have hlt' : (k : Int) < 9 := by omega
              have HLT := hd hlt
              clear hlt hku
              have a2 := HA.out.cell 2
              have s0 := HD.out.cell 0
              have s1 := HD.out.cell 1
              have s2 := HD.out.cell 2
              have s3 := HD.out.cell 3
              have s4 := HD.out.cell 4
              have s5 := HD.out.cell 5
              have s6 := HD.out.cell 6
              have s7 := HD.out.cell 7
              have s8 := HD.out.cell 8
              simp at a2 s0 s1 s2 s3 s4 s5 s6 s7 s8
              have NB := below1 wr (Obj.cells #[Value.int IntKind.i64 3, Value.int IntKind.i64 4, Value.int IntKind.i64 0, Value.string ⟨Array.replicate 24 115⟩, Value.string ⟨#[98]⟩, Value.int IntKind.i64 5, Value.int IntKind.i64 9007199254740986, Value.string ⟨Array.replicate 64 115⟩, Value.slice y 8 cp] 36)
              have hbn : Bk (wr.alloc (Obj.cells #[Value.int IntKind.i64 3, Value.int IntKind.i64 4, Value.int IntKind.i64 0, Value.string ⟨Array.replicate 24 115⟩, Value.string ⟨#[98]⟩, Value.int IntKind.i64 5, Value.int IntKind.i64 9007199254740986, Value.string ⟨Array.replicate 64 115⟩, Value.slice y 8 cp] 36)) wr.heap.size 36 (encS (fuS, Value.slice y 8 cp)).toArray := Bk.new wr 36 _
              obtain ⟨c7, w7, hr7, ho7, hk7⟩ := (HO.out.keep NB).app hbn rfl (Nat.le_trans HNW.out NB.size) (by have := HKK.out; have := HLT.out; rw [List.length_replicate]; omega) 22
              obtain ⟨x7, p7, hv7⟩ := ho7.form
              rw [List.length_append, List.length_replicate] at hv7
              simp only [List.length_singleton] at hv7
              subst hv7
              have HR7 := hd hr7
              have b7 := (HBK.out.trans (NB.mono HBK.out.size)).trans (hk7.mono (by have := HN2.out; have := HN3.out; omega))
              have a7 : Bk w7 gf 24 #[Value.int IntKind.i64 16, Value.int IntKind.i64 9007199254740991, Value.slice x kk c] := (hk7.block gf HN3.out.1).trans (HA.out.keep NB)
              have d7 : Bk w7 gs 36 #[Value.int IntKind.i64 3, Value.int IntKind.i64 4, Value.int IntKind.i64 0, Value.string ⟨Array.replicate 24 115⟩, Value.string ⟨#[98]⟩, Value.int IntKind.i64 5, Value.int IntKind.i64 9007199254740986, Value.string ⟨Array.replicate 64 115⟩, Value.slice y 8 cp] := (hk7.block gs HN3.out.2).trans (HD.out.keep NB)
              have t7 := (HT.out.keep NB).far hk7 HG8.out
              have n7 := Nat.le_trans (Nat.le_trans HNW.out NB.size) hk7.size
              have c2 := a7.cell 2
              have f2 := a7.fz 2
              simp at c2
              have ks := kp_set1 w7 gf 2 (Value.slice x7 (kk + 1) p7)
              have HA8 : Hid (Bk (w7.setCell ⟨gf, 2, none⟩ (Value.slice x7 (kk + 1) p7)) gf 24 #[Value.int IntKind.i64 16, Value.int IntKind.i64 9007199254740991, Value.slice x7 (kk + 1) p7]) := hd (a7.set 2 _)
              have HD8 := hd (ks.bk d7 (by have := HN2.out; omega))
              have HT8 := hd (t7.kp ks (by have := HN2.out; omega))
              have HO8 : Hid (OwS N3 (w7.setCell ⟨gf, 2, none⟩ (Value.slice x7 (kk + 1) p7)) (Value.slice x7 (kk + 1) p7) (List.replicate (kk + 1) (fuS, Value.slice y 8 cp))) := hd (by
                have h := ho7.kp ks HN3.out.1
                rw [← List.replicate_succ'] at h
                exact h)
              have HB8 := hd (b7.trans (ks.below w.heap.size b7.size (fun j hj e => by have := HN2.out; omega)))
              have HN8 := hd (Nat.le_trans n7 ks.size)
              clear NB hbn hr7 ho7 hk7 b7 a7 d7 t7 n7 ks HBK HNW HD HT HA HO
              go_wp2_with (at_builtin; refine wpList_append_run _ rfl _ _ _ _ rfl _ _ rfl rfl _ w7 HR7.out ?_)
              clear a2 s0 s1 s2 s3 s4 s5 s6 s7 s8 c2 f2
              generalize w7.setCell ⟨gf, 2, none⟩ (Value.slice x7 (kk + 1) p7) = w12 at *
              go_roundw
              case rel =>
                have hee : 0 + (k + 1) = kk + 1 := by have := HKK.out; omega
                exact ⟨k + 1, by have := HLT.out; omega, by go_num, HB8.out, HN8.out, HD8.out, HT8.out, x7, p7, by rw [hee]; exact HA8.out, by rw [hee]; exact HO8.out⟩
              case measure => simp [intOf]; have := HLT.out; omega
            · have hkU : k = 9 := by omega
              subst hkU
              rw [show ((9 : Nat) : Int) = 9 from rfl]
              have hkk2 := HKK.out
              obtain rfl : kk = 9 := by omega
              clear hlt hku hkk2 HKK
              have a0 := HA.out.cell 0
              have a1 := HA.out.cell 1
              have a2 := HA.out.cell 2
              simp at a0 a1 a2
              go_wp2_with fail
              have HC := checkB_any (ag := 16) (sq := 9007199254740991) (⟨HO.out.el, fun q hq => by obtain ⟨_, rfl⟩ := List.mem_replicate.1 hq; exact HT.out.el⟩ : Sps wr (Value.slice x 9 c) (List.replicate 9 (fuS, Value.slice y 8 cp))) (fun q hq => by obtain ⟨_, rfl⟩ := List.mem_replicate.1 hq; exact fuS_wf)
              rw [show spd (List.replicate 9 (fuS, Value.slice y 8 cp)) = List.replicate 9 fuS from rfl, full9] at HC
              simp only [if_true] at HC
              refine HC.mono ?_
              rintro e w20 ⟨rfl, hk⟩
              have A20 := hd (HA.out.keep hk)
              have D20 := hd (HD.out.keep hk)
              have T20 := hd (HT.out.keep hk)
              have O20 := hd (HO.out.keep hk)
              have B20 := hd (below_below HBK.out hk)
              have N20 := hd (Nat.le_trans HNW.out hk.size)
              clear HC hk HA HD HT HO HBK HNW a0 a1 a2
              go_wp2_with fail
              go_loopw [11] (fun i wr => ∃ k : Nat, k ≤ 3 ∧ i = .int .i64 (k : Int) ∧ Below w.heap.size w wr ∧ N3 ≤ wr.heap.size ∧ Bk wr gs 36 #[Value.int IntKind.i64 3, Value.int IntKind.i64 4, Value.int IntKind.i64 0, Value.string ⟨Array.replicate 24 115⟩, Value.string ⟨#[98]⟩, Value.int IntKind.i64 5, Value.int IntKind.i64 9007199254740986, Value.string ⟨Array.replicate 64 115⟩, Value.slice y 8 cp] ∧ OwA N2 wr (Value.slice y 8 cp) fuS.ats ∧ ∃ x c, Bk wr gf 24 #[Value.int IntKind.i64 16, Value.int IntKind.i64 9007199254740991, Value.slice x (9 + k) c] ∧ OwS N3 wr (Value.slice x (9 + k) c) (List.replicate (9 + k) (fuS, Value.slice y 8 cp))) (fun i _ => 3 - (intOf i).toNat)
              case atStart => exact ⟨0, Nat.zero_le _, rfl, B20.out, N20.out, D20.out, T20.out, x, c, A20.out, O20.out⟩
              case round =>
                obtain ⟨k, hku, rfl, hb, hn, hdd, ht, x, c, ha, ho⟩ := hrel
                obtain ⟨kk, hkk⟩ : ∃ kk, 9 + k = kk := ⟨_, rfl⟩
                rw [hkk] at ha ho
                have HBK := hd hb; have HNW := hd hn; have HD := hd hdd; have HT := hd ht; have HA := hd ha; have HO := hd ho; have HKK := hd hkk
                clear hb hn hdd ht ha ho hkk A20 D20 T20 O20 B20 N20
                by_cases hlt : k < 3
                · have hlt' : (k : Int) < 3 := by omega
                  have HLT := hd hlt
                  clear hlt hku
                  have a2 := HA.out.cell 2
                  have s0 := HD.out.cell 0
                  have s1 := HD.out.cell 1
                  have s2 := HD.out.cell 2
                  have s3 := HD.out.cell 3
                  have s4 := HD.out.cell 4
                  have s5 := HD.out.cell 5
                  have s6 := HD.out.cell 6
                  have s7 := HD.out.cell 7
                  have s8 := HD.out.cell 8
                  simp at a2 s0 s1 s2 s3 s4 s5 s6 s7 s8
                  have NB := below1 wr (Obj.cells #[Value.int IntKind.i64 3, Value.int IntKind.i64 4, Value.int IntKind.i64 0, Value.string ⟨Array.replicate 24 115⟩, Value.string ⟨#[98]⟩, Value.int IntKind.i64 5, Value.int IntKind.i64 9007199254740986, Value.string ⟨Array.replicate 64 115⟩, Value.slice y 8 cp] 36)
                  have hbn : Bk (wr.alloc (Obj.cells #[Value.int IntKind.i64 3, Value.int IntKind.i64 4, Value.int IntKind.i64 0, Value.string ⟨Array.replicate 24 115⟩, Value.string ⟨#[98]⟩, Value.int IntKind.i64 5, Value.int IntKind.i64 9007199254740986, Value.string ⟨Array.replicate 64 115⟩, Value.slice y 8 cp] 36)) wr.heap.size 36 (encS (fuS, Value.slice y 8 cp)).toArray := Bk.new wr 36 _
                  obtain ⟨c7, w7, hr7, ho7, hk7⟩ := (HO.out.keep NB).app hbn rfl (Nat.le_trans HNW.out NB.size) (by have := HKK.out; have := HLT.out; rw [List.length_replicate]; omega) 22
                  obtain ⟨x7, p7, hv7⟩ := ho7.form
                  rw [List.length_append, List.length_replicate] at hv7
                  simp only [List.length_singleton] at hv7
                  subst hv7
                  have HR7 := hd hr7
                  have b7 := (HBK.out.trans (NB.mono HBK.out.size)).trans (hk7.mono (by have := HN2.out; have := HN3.out; omega))
                  have a7 : Bk w7 gf 24 #[Value.int IntKind.i64 16, Value.int IntKind.i64 9007199254740991, Value.slice x kk c] := (hk7.block gf HN3.out.1).trans (HA.out.keep NB)
                  have d7 : Bk w7 gs 36 #[Value.int IntKind.i64 3, Value.int IntKind.i64 4, Value.int IntKind.i64 0, Value.string ⟨Array.replicate 24 115⟩, Value.string ⟨#[98]⟩, Value.int IntKind.i64 5, Value.int IntKind.i64 9007199254740986, Value.string ⟨Array.replicate 64 115⟩, Value.slice y 8 cp] := (hk7.block gs HN3.out.2).trans (HD.out.keep NB)
                  have t7 := (HT.out.keep NB).far hk7 HG8.out
                  have n7 := Nat.le_trans (Nat.le_trans HNW.out NB.size) hk7.size
                  have c2 := a7.cell 2
                  have f2 := a7.fz 2
                  simp at c2
                  have ks := kp_set1 w7 gf 2 (Value.slice x7 (kk + 1) p7)
                  have HA8 : Hid (Bk (w7.setCell ⟨gf, 2, none⟩ (Value.slice x7 (kk + 1) p7)) gf 24 #[Value.int IntKind.i64 16, Value.int IntKind.i64 9007199254740991, Value.slice x7 (kk + 1) p7]) := hd (a7.set 2 _)
                  have HD8 := hd (ks.bk d7 (by have := HN2.out; omega))
                  have HT8 := hd (t7.kp ks (by have := HN2.out; omega))
                  have HO8 : Hid (OwS N3 (w7.setCell ⟨gf, 2, none⟩ (Value.slice x7 (kk + 1) p7)) (Value.slice x7 (kk + 1) p7) (List.replicate (kk + 1) (fuS, Value.slice y 8 cp))) := hd (by
                    have h := ho7.kp ks HN3.out.1
                    rw [← List.replicate_succ'] at h
                    exact h)
                  have HB8 := hd (b7.trans (ks.below w.heap.size b7.size (fun j hj e => by have := HN2.out; omega)))
                  have HN8 := hd (Nat.le_trans n7 ks.size)
                  clear NB hbn hr7 ho7 hk7 b7 a7 d7 t7 n7 ks HBK HNW HD HT HA HO
                  go_wp2_with (at_builtin; refine wpList_append_run _ rfl _ _ _ _ rfl _ _ rfl rfl _ w7 HR7.out ?_)
                  clear a2 s0 s1 s2 s3 s4 s5 s6 s7 s8 c2 f2
                  generalize w7.setCell ⟨gf, 2, none⟩ (Value.slice x7 (kk + 1) p7) = w12 at *
                  go_roundw
                  case rel =>
                    have hee : 9 + (k + 1) = kk + 1 := by have := HKK.out; omega
                    exact ⟨k + 1, by have := HLT.out; omega, by go_num, HB8.out, HN8.out, HD8.out, HT8.out, x7, p7, by rw [hee]; exact HA8.out, by rw [hee]; exact HO8.out⟩
                  case measure => simp [intOf]; have := HLT.out; omega
                · have hkU : k = 3 := by omega
                  subst hkU
                  rw [show ((3 : Nat) : Int) = 3 from rfl]
                  have hkk2 := HKK.out
                  obtain rfl : kk = 12 := by omega
                  clear hlt hku hkk2 HKK
                  have a0 := HA.out.cell 0
                  have a1 := HA.out.cell 1
                  have a2 := HA.out.cell 2
                  simp at a0 a1 a2
                  go_wp2_with fail
                  have HC := checkB_any (ag := 16) (sq := 9007199254740991) (⟨HO.out.el, fun q hq => by obtain ⟨_, rfl⟩ := List.mem_replicate.1 hq; exact HT.out.el⟩ : Sps wr (Value.slice x 12 c) (List.replicate 12 (fuS, Value.slice y 8 cp))) (fun q hq => by obtain ⟨_, rfl⟩ := List.mem_replicate.1 hq; exact fuS_wf)
                  rw [show spd (List.replicate 12 (fuS, Value.slice y 8 cp)) = List.replicate 12 fuS from rfl, full12] at HC
                  simp only [Bool.false_eq_true, if_false] at HC
                  refine HC.mono ?_
                  rintro e w21 ⟨rfl, hk⟩
                  have A21 := hd (HA.out.keep hk)
                  have D21 := hd (HD.out.keep hk)
                  have T21 := hd (HT.out.keep hk)
                  have O21 := hd (HO.out.keep hk)
                  have B21 := hd (below_below HBK.out hk)
                  have N21 := hd (Nat.le_trans HNW.out hk.size)
                  clear HC hk HA HD HT HO HBK HNW a0 a1 a2
                  clear A21 D21 T21 O21 N21
                  go_wp2_with fail
                  refine (chapter_is w21).mono ?_
                  rintro e w22 ⟨b2, rfl, ho, hk⟩
                  have HB2 := hd (below_below B21.out hk)
                  have HWR := hd B21.out.size
                  clear B21
                  have NB := below1 w22 (Obj.cells #[Value.int IntKind.i64 1, Value.int IntKind.i64 2, Value.slice (some ⟨b2, 0, none⟩) 1 1] 24)
                  have A := hd (Bk.new w22 24 #[Value.int IntKind.i64 1, Value.int IntKind.i64 2, Value.slice (some ⟨b2, 0, none⟩) 1 1])
                  have O := hd ((ho.lower HWR.out).keep NB)
                  have HB3 := hd (below_below HB2.out NB)
                  have HGM := hd HB2.out.size
                  clear NB ho hk HB2
                  go_upto_region 73 with fail
                  generalize w22.alloc (Obj.cells #[Value.int IntKind.i64 1, Value.int IntKind.i64 2, Value.slice (some ⟨b2, 0, none⟩) 1 1] 24) = w23 at *
                  generalize w22.heap.size = gm at *
                  go_wp2_with fail
                  go_loopw [14] (fun i wr => ∃ k : Nat, k ≤ 15 ∧ i = .int .i64 (k : Int) ∧ Below w.heap.size w wr ∧ ∃ g c, Bk wr gm 24 #[Value.int IntKind.i64 1, Value.int IntKind.i64 2, Value.slice (some ⟨g, 0, none⟩) (k + 1) c] ∧ OwB w.heap.size wr (Value.slice (some ⟨g, 0, none⟩) (k + 1) c) (List.replicate (k + 1) (chS, Value.slice none 0 0))) (fun i _ => 15 - (intOf i).toNat)
                  case atStart => exact ⟨0, Nat.zero_le _, rfl, HB3.out, b2, 1, A.out, O.out⟩
                  case round =>
                    obtain ⟨k, hk15, rfl, hb, g, c, ha, ho⟩ := hrel
                    obtain ⟨kk, hkk⟩ : ∃ kk, k + 1 = kk := ⟨_, rfl⟩
                    rw [hkk] at ha ho
                    have HBK := hd hb; have HA := hd ha; have HO := hd ho; have HKK := hd hkk
                    clear hb ha ho hkk A O HB3
                    by_cases hlt : k < 15
                    · have hlt' : (k : Int) < 15 := by omega
                      have HLT := hd hlt
                      have HGG := hd (HO.out.own.2.lt g rfl)
                      have HGN := hd ((HO.out.ne HA.out (by decide) (by decide)).1 g rfl)
                      have hkz : (0 : Int) < (kk : Int) := by have := HKK.out; omega
                      have hkn : 0 < kk := by have := HKK.out; omega
                      have HSC : Hid (∀ f u, (encS (chS, Value.slice none 0 0))[f]? = some u → wr.cell? ⟨g, f, none⟩ = some u) := hd (fun f u he => by
                        have h := HO.out.cell (i := 0) (by rw [List.length_replicate]; exact hkn) f (u := u) (by rw [List.getElem_replicate]; exact he)
                        rw [Nat.zero_mul, Nat.zero_add] at h
                        exact h)
                      clear hlt hk15
                      go_wp2_with fail
                      refine wp_region_eachL 9 (fun W W' => Kp (fun b => b = g) W W') (fun i v W => match i with | 0 => v = Value.pointer (some ⟨gm, 2, none⟩) | 1 => v = Value.slice (some ⟨g, 0, none⟩) kk c | 2 => v = Value.pointer (some ⟨gm, 2, none⟩) | 3 => v = Value.slice (some ⟨g, 0, none⟩) kk c | 4 => v = Value.pointer (some ⟨g, 0, none⟩) | 5 => v = Value.agg #[Value.int IntKind.i64 3, Value.int IntKind.i64 4, Value.int IntKind.i64 0, Value.string ⟨#[97]⟩, Value.string ⟨#[98]⟩, Value.int IntKind.i64 5, Value.int IntKind.i64 6, Value.string ⟨#[]⟩, Value.slice none 0 0] | 6 => ∃ gq, v = Value.slice (some ⟨gq, 0, none⟩) 1 1 ∧ gq ≠ g ∧ Bk W gq 36 #[Value.int IntKind.i64 3, Value.int IntKind.i64 4, Value.int IntKind.i64 0, Value.string ⟨#[97]⟩, Value.string ⟨#[98]⟩, Value.int IntKind.i64 5, Value.int IntKind.i64 6, Value.string ⟨#[]⟩, Value.slice none 0 0] | 7 => True | 8 => v = Value.pointer (some ⟨gm, 2, none⟩) | _ => True) (fun L vs W => Kp (fun b => b = g) wr W ∧ (L 7 = false → Below wr.heap.size wr W ∧ OwB w.heap.size W (Value.slice (some ⟨g, 0, none⟩) kk c) (List.replicate kk (chS, Value.slice none 0 0))) ∧ (L 7 = true → OwB w.heap.size W (vs.getD 7 undef) (List.replicate kk (chS, Value.slice none 0 0) ++ [(chS, Value.slice none 0 0)]))) (by kernel_rfl) (by kernel_rfl) (fun j v W W' hE h => by
                          match j with
                          | 0 => exact h
                          | 1 => exact h
                          | 2 => exact h
                          | 3 => exact h
                          | 4 => exact h
                          | 5 => exact h
                          | 6 => exact (by obtain ⟨gq, h1, h2, h3⟩ := h; exact ⟨gq, h1, h2, hE.bk h3 h2⟩)
                          | 7 => exact h
                          | 8 => exact h
                          | _ + 9 => trivial) (⟨(Kp.refl _ _).drew, fun _ => ⟨(Below.refl _ _).drew, HO.out.keep (Below.refl _ _).drew⟩, fun hh => by cases hh⟩) ?_ ?_
                      · simp only [List.take_succ_cons, List.take_zero]
                        refine EachL.start (fun A hA => ?_)
                        have PUTS : ∀ v0 v1 v2 v3 v4 v5 v6 v7 v8 : Value, A [v0, v1, v2, v3, v4, v5, v6, v7, v8] = A [v0, v1, v2, v3, v4, v5, v6, v7, v8] := fun v0 v1 v2 v3 v4 v5 v6 v7 v8 => rfl
                        conv at PUTS => intro v0 v1 v2 v3 v4 v5 v6 v7 v8; rhs; rw [hA]; simp only [puts, Act.put, List.setIfInBounds_toArray, List.set_cons_zero, List.set_cons_succ]
                        refine EachL.consA A hA (fun vs W L hl => ?_) ?_
                        · apply with9 hl
                          clear hl vs
                          intro v0 v1 v2 v3 v4 v5 v6 v7 v8 hg hd hno hcl hdp K hK
                          clear hd
                          rw [if_pos (by rw [PUTS]; kernel_rfl)]
                          simp only [PUTS, Act.put, List.setIfInBounds_toArray, List.set_cons_zero, List.set_cons_succ] at hK ⊢
                          go_simp
                          exact hK _ _ (Kp.refl _ _) rfl hg
                        refine EachL.consA A hA (fun vs W L hl => ?_) ?_
                        · apply with9 hl
                          clear hl vs
                          intro v0 v1 v2 v3 v4 v5 v6 v7 v8 hg hd hno hcl hdp K hK
                          have d0 : v0 = Value.pointer (some ⟨gm, 2, none⟩) := hd 0 v0 (by kernel_rfl) rfl
                          subst d0
                          clear hd
                          rw [if_pos (by rw [PUTS]; kernel_rfl)]
                          simp only [PUTS, Act.put, List.setIfInBounds_toArray, List.set_cons_zero, List.set_cons_succ] at hK ⊢
                          have c := hg.1.bk HA.out (fun e => HGN.out e.symm)
                          have c2 := c.cell 2
                          simp at c2
                          go_simp
                          exact hK _ _ (Kp.refl _ _) rfl hg
                        refine EachL.consA A hA (fun vs W L hl => ?_) ?_
                        · apply with9 hl
                          clear hl vs
                          intro v0 v1 v2 v3 v4 v5 v6 v7 v8 hg hd hno hcl hdp K hK
                          clear hd
                          rw [if_pos (by rw [PUTS]; kernel_rfl)]
                          simp only [PUTS, Act.put, List.setIfInBounds_toArray, List.set_cons_zero, List.set_cons_succ] at hK ⊢
                          go_simp
                          exact hK _ _ (Kp.refl _ _) rfl hg
                        refine EachL.consA A hA (fun vs W L hl => ?_) ?_
                        · apply with9 hl
                          clear hl vs
                          intro v0 v1 v2 v3 v4 v5 v6 v7 v8 hg hd hno hcl hdp K hK
                          have d2 : v2 = Value.pointer (some ⟨gm, 2, none⟩) := hd 2 v2 (by kernel_rfl) rfl
                          subst d2
                          clear hd
                          rw [if_pos (by rw [PUTS]; kernel_rfl)]
                          simp only [PUTS, Act.put, List.setIfInBounds_toArray, List.set_cons_zero, List.set_cons_succ] at hK ⊢
                          have c := hg.1.bk HA.out (fun e => HGN.out e.symm)
                          have c2 := c.cell 2
                          simp at c2
                          go_simp
                          exact hK _ _ (Kp.refl _ _) rfl hg
                        refine EachL.consA A hA (fun vs W L hl => ?_) ?_
                        · apply with9 hl
                          clear hl vs
                          intro v0 v1 v2 v3 v4 v5 v6 v7 v8 hg hd hno hcl hdp K hK
                          have d3 : v3 = Value.slice (some ⟨g, 0, none⟩) kk c := hd 3 v3 (by kernel_rfl) rfl
                          subst d3
                          clear hd
                          rw [if_pos (by rw [PUTS]; kernel_rfl)]
                          simp only [PUTS, Act.put, List.setIfInBounds_toArray, List.set_cons_zero, List.set_cons_succ] at hK ⊢
                          go_simp
                          exact hK _ _ (Kp.refl _ _) rfl hg
                        refine EachL.consA A hA (fun vs W L hl => ?_) ?_
                        · apply with9 hl
                          clear hl vs
                          intro v0 v1 v2 v3 v4 v5 v6 v7 v8 hg hd hno hcl hdp K hK
                          have d4 : v4 = Value.pointer (some ⟨g, 0, none⟩) := hd 4 v4 (by kernel_rfl) rfl
                          subst d4
                          clear hd
                          rw [if_pos (by rw [PUTS]; kernel_rfl)]
                          simp only [PUTS, Act.put, List.setIfInBounds_toArray, List.set_cons_zero, List.set_cons_succ] at hK ⊢
                          have hbl : L 7 = false := by
                            cases h7 : L 7 with
                            | false => rfl
                            | true => exact absurd (hcl 7 _ 6 rfl h7 (by kernel_rfl)) (by intro h6; exact absurd (hcl 6 _ 5 rfl h6 (by kernel_rfl)) (by rw [hno]; exact Bool.false_ne_true))
                          have hbb := (hg.2.1 hbl).1
                          have e0 : W.cell? ⟨g, 0, none⟩ = some (.int .i64 3) := (below_cell hbb (p := ⟨g, 0, none⟩) HGG.out.2).trans (HSC.out 0 _ rfl)
                          have e1 : W.cell? ⟨g, 1, none⟩ = some (.int .i64 4) := (below_cell hbb (p := ⟨g, 1, none⟩) HGG.out.2).trans (HSC.out 1 _ rfl)
                          have e2 : W.cell? ⟨g, 2, none⟩ = some (.int .i64 0) := (below_cell hbb (p := ⟨g, 2, none⟩) HGG.out.2).trans (HSC.out 2 _ rfl)
                          have e3 : W.cell? ⟨g, 3, none⟩ = some (.string ⟨#[97]⟩) := (below_cell hbb (p := ⟨g, 3, none⟩) HGG.out.2).trans (HSC.out 3 _ rfl)
                          have e4 : W.cell? ⟨g, 4, none⟩ = some (.string ⟨#[98]⟩) := (below_cell hbb (p := ⟨g, 4, none⟩) HGG.out.2).trans (HSC.out 4 _ rfl)
                          have e5 : W.cell? ⟨g, 5, none⟩ = some (.int .i64 5) := (below_cell hbb (p := ⟨g, 5, none⟩) HGG.out.2).trans (HSC.out 5 _ rfl)
                          have e6 : W.cell? ⟨g, 6, none⟩ = some (.int .i64 6) := (below_cell hbb (p := ⟨g, 6, none⟩) HGG.out.2).trans (HSC.out 6 _ rfl)
                          have e7 : W.cell? ⟨g, 7, none⟩ = some (.string ⟨#[]⟩) := (below_cell hbb (p := ⟨g, 7, none⟩) HGG.out.2).trans (HSC.out 7 _ rfl)
                          have e8 : W.cell? ⟨g, 8, none⟩ = some (.slice none 0 0) := (below_cell hbb (p := ⟨g, 8, none⟩) HGG.out.2).trans (HSC.out 8 _ rfl)
                          go_simp
                          exact hK _ _ (Kp.refl _ _) rfl hg
                        refine EachL.consA A hA (fun vs W L hl => ?_) ?_
                        · apply with9 hl
                          clear hl vs
                          intro v0 v1 v2 v3 v4 v5 v6 v7 v8 hg hd hno hcl hdp K hK
                          have d5 : v5 = Value.agg #[Value.int IntKind.i64 3, Value.int IntKind.i64 4, Value.int IntKind.i64 0, Value.string ⟨#[97]⟩, Value.string ⟨#[98]⟩, Value.int IntKind.i64 5, Value.int IntKind.i64 6, Value.string ⟨#[]⟩, Value.slice none 0 0] := hd 5 v5 (by kernel_rfl) rfl
                          subst d5
                          clear hd
                          rw [if_pos (by rw [PUTS]; kernel_rfl)]
                          simp only [PUTS, Act.put, List.setIfInBounds_toArray, List.set_cons_zero, List.set_cons_succ] at hK ⊢
                          have NB := below1 W (Obj.cells #[Value.int IntKind.i64 3, Value.int IntKind.i64 4, Value.int IntKind.i64 0, Value.string ⟨#[97]⟩, Value.string ⟨#[98]⟩, Value.int IntKind.i64 5, Value.int IntKind.i64 6, Value.string ⟨#[]⟩, Value.slice none 0 0] 36)
                          have hws := hg.1.size
                          go_simp
                          exact hK _ _ (kpB NB _) ⟨W.heap.size, rfl, (by have := HGG.out.2; omega), Bk.new W 36 _⟩ ⟨hg.1.trans (kpB NB _), fun h => ⟨below_below (hg.2.1 h).1 NB, (hg.2.1 h).2.keep NB⟩, fun h => (hg.2.2 h).keep NB⟩
                        refine EachL.consA A hA (fun vs W L hl => ?_) ?_
                        · apply with9 hl
                          clear hl vs
                          intro v0 v1 v2 v3 v4 v5 v6 v7 v8 hg hd hno hcl hdp K hK
                          have d1 : v1 = Value.slice (some ⟨g, 0, none⟩) kk c := hd 1 v1 (by kernel_rfl) rfl
                          subst d1
                          have d6 : ∃ gq, v6 = Value.slice (some ⟨gq, 0, none⟩) 1 1 ∧ gq ≠ g ∧ Bk W gq 36 #[Value.int IntKind.i64 3, Value.int IntKind.i64 4, Value.int IntKind.i64 0, Value.string ⟨#[97]⟩, Value.string ⟨#[98]⟩, Value.int IntKind.i64 5, Value.int IntKind.i64 6, Value.string ⟨#[]⟩, Value.slice none 0 0] := hd 6 v6 (by kernel_rfl) rfl
                          clear hd
                          rw [if_pos (by rw [PUTS]; kernel_rfl)]
                          simp only [PUTS, Act.put, List.setIfInBounds_toArray, List.set_cons_zero, List.set_cons_succ] at hK ⊢
                          obtain ⟨gq, rfl, hgo, hgb⟩ := d6
                          have hoa := hg.2.1 hno
                          obtain ⟨c', w', hrn, ho', hk', hcl'⟩ := hoa.2.app (q := (chS, Value.slice none 0 0)) hgb ⟨by decide, World.ownsRow_nil _ _ 44 6⟩ (fun j hj => by cases hj) (Nat.le_trans HBK.out.size hg.1.size) (by have := HKK.out; have := HLT.out; rw [List.length_replicate]; omega) 22
                          have hkp : Kp (fun b => b = g) W w' := ⟨hk'.os, hk'.tape, hk'.output, hk'.size, fun i hi hn => hcl' i (fun e => hn (by simp only [Value.ownBlock, Option.some.injEq] at e; exact e.symm)) hi⟩
                          refine Lib.wp_append_run W _ _ 22 22 rfl _ _ rfl rfl c' w' hrn ?_
                          exact hK _ _ hkp trivial ⟨hg.1.trans hkp, (fun hh => by cases hh), fun _ => ho'⟩
                        refine EachL.consA A hA (fun vs W L hl => ?_) ?_
                        · apply with9 hl
                          clear hl vs
                          intro v0 v1 v2 v3 v4 v5 v6 v7 v8 hg hd hno hcl hdp K hK
                          clear hd
                          rw [if_pos (by rw [PUTS]; kernel_rfl)]
                          simp only [PUTS, Act.put, List.setIfInBounds_toArray, List.set_cons_zero, List.set_cons_succ] at hK ⊢
                          go_simp
                          exact hK _ _ (Kp.refl _ _) rfl hg
                        exact EachL.nil
                      · intro vs W L hl
                        apply with9 hl
                        clear hl vs
                        intro v0 v1 v2 v3 v4 v5 v6 v7 v8 hall0 hg hall
                        have d0 : v0 = Value.pointer (some ⟨gm, 2, none⟩) := hall 0 v0 rfl
                        subst d0
                        have d1 : v1 = Value.slice (some ⟨g, 0, none⟩) kk c := hall 1 v1 rfl
                        subst d1
                        have d2 : v2 = Value.pointer (some ⟨gm, 2, none⟩) := hall 2 v2 rfl
                        subst d2
                        have d3 : v3 = Value.slice (some ⟨g, 0, none⟩) kk c := hall 3 v3 rfl
                        subst d3
                        have d4 : v4 = Value.pointer (some ⟨g, 0, none⟩) := hall 4 v4 rfl
                        subst d4
                        have d5 : v5 = Value.agg #[Value.int IntKind.i64 3, Value.int IntKind.i64 4, Value.int IntKind.i64 0, Value.string ⟨#[97]⟩, Value.string ⟨#[98]⟩, Value.int IntKind.i64 5, Value.int IntKind.i64 6, Value.string ⟨#[]⟩, Value.slice none 0 0] := hall 5 v5 rfl
                        subst d5
                        have d6 : ∃ gq, v6 = Value.slice (some ⟨gq, 0, none⟩) 1 1 ∧ gq ≠ g ∧ Bk W gq 36 #[Value.int IntKind.i64 3, Value.int IntKind.i64 4, Value.int IntKind.i64 0, Value.string ⟨#[97]⟩, Value.string ⟨#[98]⟩, Value.int IntKind.i64 5, Value.int IntKind.i64 6, Value.string ⟨#[]⟩, Value.slice none 0 0] := hall 6 v6 rfl
                        have d7 : True := hall 7 v7 rfl
                        have d8 : v8 = Value.pointer (some ⟨gm, 2, none⟩) := hall 8 v8 rfl
                        subst d8
                        clear hall
                        simp only [puts, Act.put, List.setIfInBounds_toArray, List.set_cons_zero, List.set_cons_succ, List.take_succ_cons, List.take_zero, List.drop_succ_cons, List.drop_zero]
                        have ho7 : OwB w.heap.size W v7 (List.replicate kk (chS, Value.slice none 0 0) ++ [(chS, Value.slice none 0 0)]) := hg.2.2 (hall0 7 (by decide))
                        have hkp := hg.1
                        rw [← List.replicate_succ'] at ho7
                        obtain ⟨g2, cp2, cur2, hv7, _, _, _, _⟩ := ho7.own.open_ (by rw [List.length_replicate]; omega)
                        rw [List.length_replicate] at hv7
                        have hv7' : v7 = _ := hv7
                        subst hv7'
                        have A2 := hkp.bk HA.out (fun e => HGN.out e.symm)
                        have B2 := HBK.out.trans (hkp.below w.heap.size HBK.out.size (fun j hj e => by have := HGG.out.1; omega))
                        have c2 := A2.cell 2
                        have f2 := A2.fz 2
                        simp at c2
                        have ks := kp_set1 W gm 2 (Value.slice (some ⟨g2, 0, none⟩) (kk + 1) cp2)
                        have hne := ho7.ne A2 (by decide) (by decide)
                        have HA3 : Hid (Bk (W.setCell ⟨gm, 2, none⟩ (Value.slice (some ⟨g2, 0, none⟩) (kk + 1) cp2)) gm 24 #[Value.int IntKind.i64 1, Value.int IntKind.i64 2, Value.slice (some ⟨g2, 0, none⟩) (kk + 1) cp2]) := hd (A2.set 2 _)
                        have HO3 := hd (ho7.kpx ks hne.1 hne.2)
                        have HB4 := hd (B2.trans (ks.below w.heap.size B2.size (fun j hj e => by have := HGM.out; omega)))
                        clear hg hall0 d6 d7 ho7 hkp A2 B2 ks hne HA HO HBK HSC hv7
                        go_wp2_with fail
                        clear c2 f2
                        generalize W.setCell ⟨gm, 2, none⟩ (Value.slice (some ⟨g2, 0, none⟩) (kk + 1) cp2) = w25 at *
                        go_roundw
                        case rel => exact ⟨k + 1, by have := HLT.out; omega, by go_num, HB4.out, g2, cp2, by rw [HKK.out]; exact HA3.out, by rw [HKK.out]; exact HO3.out⟩
                        case measure => simp [intOf]; have := HLT.out; omega
                    · have hkU : k = 15 := by omega
                      subst hkU
                      rw [show ((15 : Nat) : Int) = 15 from rfl]
                      have hkk2 := HKK.out
                      obtain rfl : kk = 16 := by omega
                      clear hlt hk15 hkk2 HKK
                      go_wp2_with fail
                      refine (works_true wr).mono ?_
                      rintro e w26 ⟨rfl, hk⟩
                      have A26 := hd (HA.out.keep hk)
                      have O26 := hd (HO.out.keep hk)
                      have B26 := hd (below_below HBK.out hk)
                      clear hk HA HO HBK
                      have a0 := A26.out.cell 0
                      have a1 := A26.out.cell 1
                      have a2 := A26.out.cell 2
                      simp at a0 a1 a2
                      go_wp2_with fail
                      have HC := checkB_any (ag := 1) (sq := 2) O26.out.sps (fun q hq => by obtain ⟨_, rfl⟩ := List.mem_replicate.1 hq; exact chw_wf _ (List.mem_singleton.2 rfl))
                      rw [show spd (List.replicate 16 (chS, Value.slice none 0 0)) = List.replicate 16 chS from rfl, many16] at HC
                      simp only [if_true] at HC
                      refine HC.mono ?_
                      rintro e w27 ⟨rfl, hk⟩
                      have B27 := hd (below_below B26.out hk)
                      clear HC hk a0 a1 a2
                      go_wp2_with fail
                      go_ret
                      exact VEnd.mk B27.out

end Go.Proofs.Yteifaipbckhoiab
