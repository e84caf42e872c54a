/- veil.written, veil.Text. -/
import Derived.Test.YtcigbfjmnhogiabGreatDoorSc
import Derived.Handy
import Derived.Laws.BytesString
import Derived.Laws.Cells
namespace Go.Proofs.YtcigbfjmnhogiabGreatDoor
open Go.RowKit
set_option linter.unusedVariables false

/-- The figure of a number below 16. -/
def fgc (d : Nat) : UInt8 := if d < 10 then (48 + d).toUInt8 else (87 + d).toUInt8

theorem fgc_at : ∀ d : Fin 16, (figs[d.val]'(by have := d.isLt; exact this)) = fgc d.val := by decide +kernel
theorem wr3_fgc : ∀ d : Fin 8, wr3 (fgc d.val).toNat = d.val := by decide +kernel
theorem wr4_fgc : ∀ d : Fin 16, wr4 (fgc d.val).toNat = d.val := by decide +kernel
theorem fgc_wr3 : ∀ c : Fin 256, 0 ≤ wr3 c.val → fgc (wr3 c.val).toNat = UInt8.ofNat c.val := by decide +kernel
theorem fgc_wr4 : ∀ c : Fin 256, 0 ≤ wr4 c.val → fgc (wr4 c.val).toNat = UInt8.ofNat c.val := by decide +kernel
theorem fgc_not58 : ∀ d : Fin 16, fgc d.val ≠ 58 := by decide +kernel

/-- Eight figures. -/
def text8 (p : Nat) : List UInt8 := [fgc (p / 268435456 % 16), fgc (p / 16777216 % 16), fgc (p / 1048576 % 16), fgc (p / 65536 % 16), fgc (p / 4096 % 16), fgc (p / 256 % 16), fgc (p / 16 % 16), fgc (p % 16)]

/-- A label's text. -/
def textOf (x p : Nat) : ByteArray := if p = 0 then ⟨#[fgc x]⟩ else ⟨(fgc x :: 58 :: text8 p).toArray⟩

theorem push_all : ∀ (ns : List Int) (a : Array UInt8), ns.foldl (fun (r : ByteArray) n => r.push (UInt8.ofNat n.toNat)) ⟨a⟩ = ⟨a ++ (ns.map fun n => UInt8.ofNat n.toNat).toArray⟩
  | [], a => by simp
  | n :: ns, a => by
    rw [List.foldl_cons]
    have h := push_all ns (a.push (UInt8.ofNat n.toNat))
    have e : (⟨a⟩ : ByteArray).push (UInt8.ofNat n.toNat) = ⟨a.push (UInt8.ofNat n.toNat)⟩ := rfl
    rw [e, h]
    simp

theorem conv_of (w : World) (b cap : Nat) (zs : List Int) (h : ∀ i, i < zs.length → w.cell? ⟨b, i, none⟩ = some (.int .u8 (zs.getD i 0))) :
    (convert 50 9 (.slice (some ⟨b, 0, none⟩) zs.length cap)).run Tryz.prog w = .ok (.string ⟨(zs.map fun n => UInt8.ofNat n.toNat).toArray⟩) w := by
  have hl : (loadCells ⟨b, 0, none⟩ zs.length).run Tryz.prog w = .ok (zs.map (Value.int .u8)).toArray w := by
    have h2 := run_loadCells_list (P := Tryz.prog) w ⟨b, 0, none⟩ (zs.map (Value.int .u8)) (fun j v hj => by
      have hjl : j < zs.length := by
        by_cases hh : j < zs.length
        · exact hh
        · rw [List.getElem?_eq_none (by simp; omega)] at hj; cases hj
      rw [List.getElem?_map, List.getElem?_eq_getElem hjl] at hj
      simp only [Option.map_some, Option.some.injEq] at hj
      have h3 := h j hjl
      rw [List.getD_eq_getElem?_getD, List.getElem?_eq_getElem hjl, Option.getD_some] at h3
      rw [← hj, Addr.add_lit, Nat.zero_add]
      exact h3)
    simpa using h2
  rw [run_convert_bytes_string w 50 9 5 _ _ _ Tryz.underlying50 Tryz.underlying5 Tryz.underlying9, run_bytesToString w _ _ _ zs hl]
  congr 2
  have h3 := push_all zs #[]
  simp at h3
  exact h3

set_option maxRecDepth 100000 in
set_option maxHeartbeats 2000000 in
theorem written1 (x : Nat) (w : World) (h1 : x ≤ 7) :
    Calls Tryz.prog 48 #[.int .u32 (x : Int), .int .i64 3, .int .i64 1] w fun e w' => VEnd w (.string ⟨#[fgc x]⟩) e w' := by
  have hmk : ∀ w, (Instr.makeSlice 50 (.int .i64 1) (.int .i64 1)).run Tryz.prog w = .ok (.slice (some ⟨w.heap.size, 0, none⟩) 1 1) (w.alloc (.cells #[.int .u8 0] 5)) := fun _ => by kernel_rfl
  have hx : bits .and .u32 (x : Int) 7 = (x : Int) := by
    have h : ∀ y : Fin 8, bits .and .u32 (y.val : Int) 7 = (y.val : Int) := by decide +kernel
    exact h ⟨x, by omega⟩
  have h16 : (x : Int) < 16 := by omega
  have HG : Hid (figs[x]'(by show x < 16; omega) = fgc x) := hd (fgc_at ⟨x, by omega⟩)
  go_enter Tryz.func48, Tryz.ntmps48
  go_wp2_with fail
  go_rounds 2
  go_region
  go_wp2_with fail
  generalize hW : World.drew _ = W
  have HB : Hid (Below w.heap.size w W) := hd (by rw [← hW]; exact (below1 w _).drew)
  have C0 : W.cell? ⟨w.heap.size, 0, none⟩ = some (.int .u8 ((fgc x).toNat : Int)) := by
    rw [← HG.out, ← hW]
    exact World.cell?_alloc_at (w := w) _ _ _ _ rfl
  clear hW
  have hcv := conv_of W w.heap.size 1 [((fgc x).toNat : Int)] (fun i hi => by
    match i, hi with
    | 0, _ => exact C0)
  simp only [List.length_cons, List.length_nil, Nat.zero_add, List.map_cons, List.map_nil, Int.toNat_natCast, UInt8.ofNat_toNat] at hcv
  rw [rounds_succ]
  go_wp2_with fail
  go_ret
  exact VEnd.mk HB.out

set_option maxRecDepth 100000 in
set_option maxHeartbeats 4000000 in
theorem written8 (p : Nat) (w : World) (h1 : p < 4294967296) :
    Calls Tryz.prog 48 #[.int .u32 (p : Int), .int .i64 4, .int .i64 8] w fun e w' => VEnd w (.string ⟨(text8 p).toArray⟩) e w' := by
  have hmk : ∀ w, (Instr.makeSlice 50 (.int .i64 8) (.int .i64 8)).run Tryz.prog w = .ok (.slice (some ⟨w.heap.size, 0, none⟩) 8 8) (w.alloc (.cells #[.int .u8 0, .int .u8 0, .int .u8 0, .int .u8 0, .int .u8 0, .int .u8 0, .int .u8 0, .int .u8 0] 5)) := fun _ => by kernel_rfl
  have hand : ∀ n : Nat, n < 4294967296 → bits .and .u32 (n : Int) 15 = ((n % 16 : Nat) : Int) := fun n hn => by
    have e := u32_and_nat n 15 hn (by omega)
    rw [Nat.and_two_pow_sub_one_eq_mod n 4] at e
    exact e
  obtain ⟨d0, hd0⟩ : ∃ d, p / 268435456 % 16 = d := ⟨_, rfl⟩
  have k0 : bits .and .u32 ((p : Int) / 268435456) 15 = (d0 : Int) := by
    have e := hand (p / 268435456) (by omega)
    rw [hd0] at e
    rw [show ((p / 268435456 : Nat) : Int) = (p : Int) / 268435456 by omega] at e
    exact e
  have m0 : d0 < 16 := by omega
  have l0 : (d0 : Int) < 16 := by omega
  have G0 : Hid (figs[d0]'m0 = fgc d0) := hd (fgc_at ⟨d0, m0⟩)
  obtain ⟨d1, hd1⟩ : ∃ d, p / 16777216 % 16 = d := ⟨_, rfl⟩
  have k1 : bits .and .u32 ((p : Int) / 16777216) 15 = (d1 : Int) := by
    have e := hand (p / 16777216) (by omega)
    rw [hd1] at e
    rw [show ((p / 16777216 : Nat) : Int) = (p : Int) / 16777216 by omega] at e
    exact e
  have m1 : d1 < 16 := by omega
  have l1 : (d1 : Int) < 16 := by omega
  have G1 : Hid (figs[d1]'m1 = fgc d1) := hd (fgc_at ⟨d1, m1⟩)
  obtain ⟨d2, hd2⟩ : ∃ d, p / 1048576 % 16 = d := ⟨_, rfl⟩
  have k2 : bits .and .u32 ((p : Int) / 1048576) 15 = (d2 : Int) := by
    have e := hand (p / 1048576) (by omega)
    rw [hd2] at e
    rw [show ((p / 1048576 : Nat) : Int) = (p : Int) / 1048576 by omega] at e
    exact e
  have m2 : d2 < 16 := by omega
  have l2 : (d2 : Int) < 16 := by omega
  have G2 : Hid (figs[d2]'m2 = fgc d2) := hd (fgc_at ⟨d2, m2⟩)
  obtain ⟨d3, hd3⟩ : ∃ d, p / 65536 % 16 = d := ⟨_, rfl⟩
  have k3 : bits .and .u32 ((p : Int) / 65536) 15 = (d3 : Int) := by
    have e := hand (p / 65536) (by omega)
    rw [hd3] at e
    rw [show ((p / 65536 : Nat) : Int) = (p : Int) / 65536 by omega] at e
    exact e
  have m3 : d3 < 16 := by omega
  have l3 : (d3 : Int) < 16 := by omega
  have G3 : Hid (figs[d3]'m3 = fgc d3) := hd (fgc_at ⟨d3, m3⟩)
  obtain ⟨d4, hd4⟩ : ∃ d, p / 4096 % 16 = d := ⟨_, rfl⟩
  have k4 : bits .and .u32 ((p : Int) / 4096) 15 = (d4 : Int) := by
    have e := hand (p / 4096) (by omega)
    rw [hd4] at e
    rw [show ((p / 4096 : Nat) : Int) = (p : Int) / 4096 by omega] at e
    exact e
  have m4 : d4 < 16 := by omega
  have l4 : (d4 : Int) < 16 := by omega
  have G4 : Hid (figs[d4]'m4 = fgc d4) := hd (fgc_at ⟨d4, m4⟩)
  obtain ⟨d5, hd5⟩ : ∃ d, p / 256 % 16 = d := ⟨_, rfl⟩
  have k5 : bits .and .u32 ((p : Int) / 256) 15 = (d5 : Int) := by
    have e := hand (p / 256) (by omega)
    rw [hd5] at e
    rw [show ((p / 256 : Nat) : Int) = (p : Int) / 256 by omega] at e
    exact e
  have m5 : d5 < 16 := by omega
  have l5 : (d5 : Int) < 16 := by omega
  have G5 : Hid (figs[d5]'m5 = fgc d5) := hd (fgc_at ⟨d5, m5⟩)
  obtain ⟨d6, hd6⟩ : ∃ d, p / 16 % 16 = d := ⟨_, rfl⟩
  have k6 : bits .and .u32 ((p : Int) / 16) 15 = (d6 : Int) := by
    have e := hand (p / 16) (by omega)
    rw [hd6] at e
    rw [show ((p / 16 : Nat) : Int) = (p : Int) / 16 by omega] at e
    exact e
  have m6 : d6 < 16 := by omega
  have l6 : (d6 : Int) < 16 := by omega
  have G6 : Hid (figs[d6]'m6 = fgc d6) := hd (fgc_at ⟨d6, m6⟩)
  obtain ⟨d7, hd7⟩ : ∃ d, p % 16 = d := ⟨_, rfl⟩
  have k7 : bits .and .u32 ((p : Int)) 15 = (d7 : Int) := by
    have e := hand (p) (by omega)
    rw [hd7] at e
    skip
    exact e
  have m7 : d7 < 16 := by omega
  have l7 : (d7 : Int) < 16 := by omega
  have G7 : Hid (figs[d7]'m7 = fgc d7) := hd (fgc_at ⟨d7, m7⟩)
  have HT : Hid (text8 p = [fgc d0, fgc d1, fgc d2, fgc d3, fgc d4, fgc d5, fgc d6, fgc d7]) := hd (by unfold text8; rw [hd0, hd1, hd2, hd3, hd4, hd5, hd6, hd7])
  rw [HT.out]
  clear hand hd0 hd1 hd2 hd3 hd4 hd5 hd6 hd7 h1
  go_enter Tryz.func48, Tryz.ntmps48
  go_wp2_with fail
  go_rounds 9
  go_region
  go_wp2_with fail
  rw [rounds_succ]
  go_wp2_with fail
  go_region
  go_wp2_with fail
  rw [rounds_succ]
  go_wp2_with fail
  go_region
  go_wp2_with fail
  rw [rounds_succ]
  go_wp2_with fail
  go_region
  go_wp2_with fail
  rw [rounds_succ]
  go_wp2_with fail
  go_region
  go_wp2_with fail
  rw [rounds_succ]
  go_wp2_with fail
  go_region
  go_wp2_with fail
  rw [rounds_succ]
  go_wp2_with fail
  go_region
  go_wp2_with fail
  rw [rounds_succ]
  go_wp2_with fail
  go_region
  go_wp2_with fail
  generalize hW : World.drew _ = W
  have HB : Hid (Below w.heap.size w W) := hd (by rw [← hW]; exact (below1 w _).drew.drew.drew.drew.drew.drew.drew.drew)
  have C0 : W.cell? ⟨w.heap.size, 0, none⟩ = some (.int .u8 ((fgc d0).toNat : Int)) := by
    rw [← G0.out, ← hW]
    exact World.cell?_alloc_at (w := w) _ _ _ _ rfl
  have C1 : W.cell? ⟨w.heap.size, 1, none⟩ = some (.int .u8 ((fgc d1).toNat : Int)) := by
    rw [← G1.out, ← hW]
    exact World.cell?_alloc_at (w := w) _ _ _ _ rfl
  have C2 : W.cell? ⟨w.heap.size, 2, none⟩ = some (.int .u8 ((fgc d2).toNat : Int)) := by
    rw [← G2.out, ← hW]
    exact World.cell?_alloc_at (w := w) _ _ _ _ rfl
  have C3 : W.cell? ⟨w.heap.size, 3, none⟩ = some (.int .u8 ((fgc d3).toNat : Int)) := by
    rw [← G3.out, ← hW]
    exact World.cell?_alloc_at (w := w) _ _ _ _ rfl
  have C4 : W.cell? ⟨w.heap.size, 4, none⟩ = some (.int .u8 ((fgc d4).toNat : Int)) := by
    rw [← G4.out, ← hW]
    exact World.cell?_alloc_at (w := w) _ _ _ _ rfl
  have C5 : W.cell? ⟨w.heap.size, 5, none⟩ = some (.int .u8 ((fgc d5).toNat : Int)) := by
    rw [← G5.out, ← hW]
    exact World.cell?_alloc_at (w := w) _ _ _ _ rfl
  have C6 : W.cell? ⟨w.heap.size, 6, none⟩ = some (.int .u8 ((fgc d6).toNat : Int)) := by
    rw [← G6.out, ← hW]
    exact World.cell?_alloc_at (w := w) _ _ _ _ rfl
  have C7 : W.cell? ⟨w.heap.size, 7, none⟩ = some (.int .u8 ((fgc d7).toNat : Int)) := by
    rw [← G7.out, ← hW]
    exact World.cell?_alloc_at (w := w) _ _ _ _ rfl
  clear hW
  have hcv := conv_of W w.heap.size 8 [((fgc d0).toNat : Int), ((fgc d1).toNat : Int), ((fgc d2).toNat : Int), ((fgc d3).toNat : Int), ((fgc d4).toNat : Int), ((fgc d5).toNat : Int), ((fgc d6).toNat : Int), ((fgc d7).toNat : Int)] (fun i hi => by
    match i, hi with
    | 0, _ => exact C0
    | 1, _ => exact C1
    | 2, _ => exact C2
    | 3, _ => exact C3
    | 4, _ => exact C4
    | 5, _ => exact C5
    | 6, _ => exact C6
    | 7, _ => exact C7)
  simp only [List.length_cons, List.length_nil, Nat.zero_add, Nat.reduceAdd, List.map_cons, List.map_nil, Int.toNat_natCast, UInt8.ofNat_toNat] at hcv
  rw [rounds_succ]
  go_wp2_with fail
  go_ret
  exact VEnd.mk HB.out

set_option maxRecDepth 100000 in
set_option maxHeartbeats 1000000 in
theorem text_bad (x p : Int) (w : World) (h : okL x = false) :
    Calls Tryz.prog 22 #[.agg #[.int .i64 x, .int .u32 p]] w fun e w' => VEnd w (.string ⟨#[]⟩) e w' := by
  have H := hd h
  clear h
  go_enter Tryz.func22, Tryz.ntmps22
  go_wp2_with fail
  refine (check_any x p _).mono ?_
  rintro e w2 ⟨rfl, hk⟩
  have B := hd (below_below (below1 w (Obj.cells #[Value.int IntKind.i64 x, Value.int IntKind.u32 p] 35)) hk)
  clear hk
  rw [H.out]
  simp only [Bool.false_eq_true, if_false]
  go_wp2_with fail
  go_ret
  exact VEnd.mk B.out

set_option maxRecDepth 100000 in
set_option maxHeartbeats 1000000 in
theorem text_ok (x p : Nat) (w : World) (hx : x ≤ 7) (hp : p < 4294967296) :
    Calls Tryz.prog 22 #[.agg #[.int .i64 (x : Int), .int .u32 (p : Int)]] w fun e w' => VEnd w (.string (textOf x p)) e w' := by
  have H : Hid (okL (x : Int) = true) := hd (by unfold okL; simp; omega)
  go_enter Tryz.func22, Tryz.ntmps22
  go_wp2_with fail
  have A1 := Lb.new w (x : Int) (p : Int)
  have B1 := below1 w (Obj.cells #[Value.int IntKind.i64 (x : Int), Value.int IntKind.u32 (p : Int)] 35)
  generalize w.alloc (Obj.cells #[Value.int IntKind.i64 (x : Int), Value.int IntKind.u32 (p : Int)] 35) = w1 at *
  refine (check_any (x : Int) (p : Int) w1).mono ?_
  rintro e w2 ⟨rfl, hk⟩
  have B2 := hd (below_below B1 hk)
  have A2 := hd (A1.keep hk)
  have c0 := A2.out.c0
  have c1 := A2.out.c1
  clear hk A1 B1
  rw [H.out]
  simp only [if_true]
  go_wp2_with fail
  refine (written1 x w2 hx).mono ?_
  rintro e w3 ⟨rfl, hk⟩
  have B3 := hd (below_below B2.out hk)
  have A3 := hd (A2.out.keep hk)
  clear c0 c1 hk A2 B2
  have c0 := A3.out.c0
  have c1 := A3.out.c1
  by_cases h0 : p = 0
  · subst h0
    have HT : Hid (textOf x 0 = ⟨#[fgc x]⟩) := hd (by unfold textOf; rw [if_pos rfl])
    go_wp2_with fail
    go_ret
    exact VEnd.eq (VEnd.mk B3.out) (by rw [HT.out]; rfl)
  · have h0' : ((p : Int) == 0) = false := by rw [beq_eq_false_iff_ne]; omega
    have HT : Hid (textOf x p = ⟨(fgc x :: 58 :: text8 p).toArray⟩) := hd (by unfold textOf; rw [if_neg h0])
    go_wp2_with fail
    refine (written8 p _ hp).mono ?_
    rintro e w4 ⟨rfl, hk⟩
    have B4 := hd (below_below B3.out hk)
    clear hk
    go_wp2_with fail
    go_ret
    exact VEnd.eq (VEnd.mk B4.out) (by rw [HT.out]; rfl)

end Go.Proofs.YtcigbfjmnhogiabGreatDoor
