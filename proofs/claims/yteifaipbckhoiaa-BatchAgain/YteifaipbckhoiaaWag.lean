/- BatchAgain: the law's walk. -/
import Derived.Test.YteifaipbckhoiaaRq
namespace Go.Proofs.Yteifaipbckhoiaa
open Go.RowKit
set_option linter.unusedVariables false

/-- A copy of bytes in a row of its own. -/
def CopO (w : World) (l : List Int) (e : Ending) (w' : World) : Prop := ∃ a cap, e = .returned (.slice a l.length cap) ∧ Ow w.heap.size w' (.slice a l.length cap) l ∧ Below w.heap.size w w'
theorem copy_ow {N : Nat} {w : World} {v : Value} {l : List Int} (h : Bx N w v l) (hl : Byt l) (hn : l.length ≤ 140737488355328) : Calls Try.prog 20 #[v] w fun e w' => CopO w l e w' := by
  obtain ⟨v', w', hr, ho, hk⟩ := append_ow (N := N) (B := w.heap.size) (ld := []) ⟨Byt.nil, Nat.zero_le _, World.ownsRow_nil w _ 5 1⟩ h hl (Nat.le_refl _) (by simpa using hn) 26
  refine (copy_run v v' w w' hr).mono ?_
  rintro e w2 ⟨rfl, rfl⟩
  rw [List.nil_append] at ho
  obtain ⟨a, c, rfl⟩ := ho.len
  exact ⟨a, c, rfl, ho, hk⟩

set_option maxRecDepth 100000 in
set_option maxHeartbeats 8000000 in
theorem again_walk {N : Nat} {w : World} {a : Option Addr} {len cap : Nat} {l : List Int} {by_ : Int} (h : Bx N w (.slice a len cap) l) (hl : Byt l) (hln : l.length = len) (hby : 0 ≤ by_ ∧ by_ ≤ 255) (hle : (len ≤ cap ∧ len ≤ 140737488351232) ∧ (a = none → len = 0)) :
    Calls Try.prog 6 #[.slice a len cap, .int .u8 by_] w fun e w' => VEnd w (.bool true) e w' := by
  have HL := hd hl
  have HLN := hd hln
  have HB0 := hd h
  have HBY := hd hby
  have HLE := hd hle
  clear hl hln h hby hle
  go_enter Try.func6, Try.ntmps6
  go_wp2_with fail
  refine (works_true w).mono ?_
  rintro e w1 ⟨rfl, hk⟩
  have B0 := hd (hk)
  have X0 := hd (HB0.out.keep hk)
  clear hk HB0
  go_wp2_with fail
  have HPT := parseB_is X0.out HL.out
  cases hpb : parseB l with
  | none =>
    rw [hpb] at HPT
    have HPT2 : Calls Try.prog 21 #[Value.slice a len cap] w1 fun e w' => ∃ c qs2, e = .returned (.tuple #[.agg #[.int .i64 0, .int .i64 0, c], .int .i64 90]) ∧ spd qs2 = [] ∧ OwB w1.heap.size w' c qs2 ∧ Below w1.heap.size w1 w' := HPT
    clear HPT hpb
    refine HPT2.mono ?_
    rintro e w2 ⟨c2, qs2, rfl, hs, ho, hk⟩
    obtain rfl : qs2 = [] := List.map_eq_nil_iff.1 hs
    obtain ⟨x2, p2, rfl⟩ := ho.form
    simp only [List.length_nil] at ho ⊢
    clear X0
    have B1 := hd (below_below B0.out hk)
    clear B0 
    have P1 := hd (ho.sps)
    clear hk ho hs HPT2
    have NB := below1 w2 (Obj.cells #[Value.int IntKind.i64 0, Value.int IntKind.i64 0, Value.slice x2 0 p2] 24)
    have B2 := hd (below_below B1.out NB)
    have P2 := hd (P1.out.keep NB)
    clear B1 P1 
    have A2 := hd (Bk.new w2 24 #[Value.int IntKind.i64 0, Value.int IntKind.i64 0, Value.slice x2 0 p2])
    clear NB
    have a0 := A2.out.cell 0
    have a1 := A2.out.cell 1
    have a2 := A2.out.cell 2
    simp at a0 a1 a2
    go_wp2_with fail
    generalize w2.alloc (Obj.cells #[Value.int IntKind.i64 0, Value.int IntKind.i64 0, Value.slice x2 0 p2] 24) = w3 at *
    have hsm := rsameB_any 0 0 0 0 P2.out (OwB.nil 0 w3).sps
    rw [sameBt_self] at hsm
    refine hsm.mono ?_
    clear hsm
    rintro e w4 ⟨rfl, hk⟩
    have B3 := hd (below_below B2.out hk)
    have P3 := hd (P2.out.keep hk)
    have A3 := hd (A2.out.keep hk)
    clear B2 P2 A2 hk a0 a1 a2
    go_wp2_with fail
    go_ret
    exact VEnd.mk B3.out
  | some b =>
    obtain ⟨hok, hwf, hbl⟩ := parse_was HL.out hpb
    have hmore := fun y => parse_more' HL.out hpb y
    have hless := parse_less HL.out hpb
    obtain ⟨k, hk0⟩ : ∃ k, len = k + 1 := ⟨len - 1, by
      have h1 := HLN.out
      have h2 : 0 < l.length := by
        rw [← hbl]
        unfold batB
        rw [List.length_append, Num.enc_length]
        have := Num.sz_bd b.ag (by have := (okB_parts hok).1; omega)
        omega
      omega⟩
    obtain ⟨g0, hg0⟩ : ∃ g0, a = some g0 := by
      cases a with
      | some g0 => exact ⟨g0, rfl⟩
      | none => exact absurd (HLE.out.2 rfl) (by omega)
    subst hg0
    have HMORE := hd hmore
    have HLESS := hd (hless k (by have := HLN.out; omega))
    have HOK := hd hok
    have HWF := hd hwf
    have HBL := hd hbl
    have HKE := hd hk0
    rw [hpb] at HPT
    obtain ⟨ag, sq, sp⟩ := b
    have HPT2 : Calls Try.prog 21 #[Value.slice (some g0) len cap] w1 fun e w' => ∃ c qs2, e = .returned (.tuple #[.agg #[.int .i64 ag, .int .i64 sq, c], .int .i64 0]) ∧ spd qs2 = sp ∧ OwB w1.heap.size w' c qs2 ∧ Below w1.heap.size w1 w' := HPT
    clear HPT hpb hok hwf hbl hmore hless
    refine HPT2.mono ?_
    rintro e w2 ⟨c2, qs2, rfl, hs, ho, hk⟩
    obtain ⟨x2, p2, rfl⟩ := ho.form
    obtain ⟨n2, hn2⟩ : ∃ n, qs2.length = n := ⟨_, rfl⟩
    rw [hn2] at ho ⊢
    have S2 := hd hs
    have B1 := hd (below_below B0.out hk)
    have X1 := hd (X0.out.keep hk)
    clear B0 X0 
    have P1 := hd (ho.sps)
    clear hk ho hs hn2 HPT2
    have NB := below1 w2 (Obj.cells #[Value.int IntKind.i64 ag, Value.int IntKind.i64 sq, Value.slice x2 n2 p2] 24)
    have B2 := hd (below_below B1.out NB)
    have X2 := hd (X1.out.keep NB)
    have P2 := hd (P1.out.keep NB)
    clear B1 X1 P1 
    have A2 := hd (Bk.new w2 24 #[Value.int IntKind.i64 ag, Value.int IntKind.i64 sq, Value.slice x2 n2 p2])
    clear NB hk0
    have a0 := A2.out.cell 0
    have a1 := A2.out.cell 1
    have a2 := A2.out.cell 2
    simp at a0 a1 a2
    have hl0 : ¬ (len : Int) = 0 := by have := HKE.out; omega
    have hl0b : ((len : Int) == 0) = false := beq_eq_false_iff_ne.2 hl0
    have HQW : Hid (∀ q ∈ qs2, WfS q.1) := hd (fun q hq => HWF.out q.1 (by show q.1 ∈ sp; rw [← S2.out]; exact List.mem_map.2 ⟨q, hq, rfl⟩))
    go_wp2_with fail
    generalize w2.alloc (Obj.cells #[Value.int IntKind.i64 ag, Value.int IntKind.i64 sq, Value.slice x2 n2 p2] 24) = w3 at *
    generalize w2.heap.size = g2 at *
    have HBT := bytesB_any (ag := ag) (sq := sq) P2.out HQW.out
    rw [S2.out, HOK.out] at HBT
    simp only [if_true] at HBT
    rw [HBL.out] at HBT
    refine HBT.mono ?_
    rintro e w4 ⟨a4, n4, p4, rfl, hn4, ho4, hk⟩
    have B3 := hd (below_below B2.out hk)
    have X3 := hd (X2.out.keep hk)
    have P3 := hd (P2.out.keep hk)
    have A3 := hd (A2.out.keep hk)
    clear B2 X2 P2 A2 
    have Y3 := hd (ho4.bs)
    clear hk ho4 hn4 HBT a0 a1 a2 hl0 hl0b
    go_wp2_with fail
    refine (copy_ow X3.out HL.out (by have := HLN.out; have := HLE.out.1; omega)).mono ?_
    rintro e w5 ⟨a5, p5, rfl, ho5, hk⟩
    obtain ⟨n5, hn5⟩ : ∃ n, l.length = n := ⟨_, rfl⟩
    rw [hn5] at ho5 ⊢
    have HN5 := hd hn5
    clear hn5
    have NB := below1 w5 (Obj.cells #[Value.int IntKind.u8 by_] 5)
    have x6 : Ow w5.heap.size (w5.alloc (Obj.cells #[Value.int IntKind.u8 by_] 5)) (Value.slice (some ⟨w5.heap.size, 0, none⟩) 1 1) [by_] := Ow.new w5 [by_] (fun y hy => by obtain rfl := List.mem_singleton.1 hy; exact HBY.out) (by simp)
    obtain ⟨v7, w7, hr7, o7, k7⟩ := append_ow (ho5.keep NB) (ow_bx x6) x6.1 (Nat.le_trans hk.size NB.size) (by have := HN5.out; have := HLN.out; have := HLE.out.1; simp only [List.length_singleton]; omega) 26
    obtain ⟨y7, q7, hv7⟩ := o7.len
    rw [List.length_append, HN5.out] at hv7
    simp only [List.length_singleton] at hv7
    subst hv7
    have HR7 := hd hr7
    have O7 := hd o7
    have h47 := (hk.trans (NB.mono hk.size)).trans k7
    clear NB x6 hr7 o7 k7 ho5 hk
    have B4 := hd (below_below B3.out h47)
    have X4 := hd (X3.out.keep h47)
    have P4 := hd (P3.out.keep h47)
    have A4 := hd (A3.out.keep h47)
    have Y4 := hd (Y3.out.keepB h47)
    clear B3 X3 P3 A3 Y3 h47
    go_wp2_with (at_builtin; refine wpList_append_run _ rfl _ _ _ _ rfl _ _ rfl rfl _ w7 HR7.out ?_)
    have HPT := parseB_is (ow_bx O7.out) O7.out.1
    rw [HMORE.out by_] at HPT
    have HPT2 : Calls Try.prog 21 #[Value.slice y7 (n5 + 1) q7] w7 fun e w' => ∃ c qs2, e = .returned (.tuple #[.agg #[.int .i64 0, .int .i64 0, c], .int .i64 90]) ∧ spd qs2 = [] ∧ OwB w7.heap.size w' c qs2 ∧ Below w7.heap.size w7 w' := HPT
    refine HPT2.mono ?_
    rintro e w8 ⟨c8, qs8, rfl, hs8, ho8, hk⟩
    obtain rfl : qs8 = [] := List.map_eq_nil_iff.1 hs8
    obtain ⟨x8, p8, rfl⟩ := ho8.form
    simp only [List.length_nil] at ho8 ⊢
    have B5 := hd (below_below B4.out hk)
    have X5 := hd (X4.out.keep hk)
    have P5 := hd (P4.out.keep hk)
    have A5 := hd (A4.out.keep hk)
    have Y5 := hd (Y4.out.keepB hk)
    clear B4 X4 P4 A4 Y4 hk hs8 ho8 HPT HPT2 HR7 O7
    have NB := below1 w8 (Obj.cells #[Value.int IntKind.i64 0, Value.int IntKind.i64 0, Value.slice x8 0 p8] 24)
    have B6 := hd (below_below B5.out NB)
    have X6 := hd (X5.out.keep NB)
    have P6 := hd (P5.out.keep NB)
    have A6 := hd (A5.out.keep NB)
    have Y6 := hd (Y5.out.keepB NB)
    clear B5 X5 P5 A5 Y5 NB
    have hs : IntKind.i64.wrap ((len : Int) - 1) = (k : Int) := by have := HKE.out; have := HLE.out.1; rw [IntKind.wrap_i64]; omega
    have hkc : k ≤ cap := by have := HKE.out; have := HLE.out.1; omega
    have hkc2 : (k : Int) ≤ (cap : Int) := by omega
    go_wp2_with fail
    generalize w8.alloc (Obj.cells #[Value.int IntKind.i64 0, Value.int IntKind.i64 0, Value.slice x8 0 p8] 24) = w9 at *
    clear hs hkc hkc2
    have HPT := parseB_is (X6.out.front HLN.out (by have := HKE.out; omega)) (HL.out.take k)
    rw [HLESS.out] at HPT
    have HPT2 : Calls Try.prog 21 #[Value.slice (some g0) k cap] w9 fun e w' => ∃ c qs2, e = .returned (.tuple #[.agg #[.int .i64 0, .int .i64 0, c], .int .i64 90]) ∧ spd qs2 = [] ∧ OwB w9.heap.size w' c qs2 ∧ Below w9.heap.size w9 w' := HPT
    refine HPT2.mono ?_
    rintro e w10 ⟨c10, qs10, rfl, hs10, ho10, hk⟩
    obtain rfl : qs10 = [] := List.map_eq_nil_iff.1 hs10
    obtain ⟨x10, p10, rfl⟩ := ho10.form
    simp only [List.length_nil] at ho10 ⊢
    have B7 := hd (below_below B6.out hk)
    have X7 := hd (X6.out.keep hk)
    have P7 := hd (P6.out.keep hk)
    have A7 := hd (A6.out.keep hk)
    have Y7 := hd (Y6.out.keepB hk)
    clear B6 X6 P6 A6 Y6 hk hs10 ho10 HPT HPT2
    have NB := below1 w10 (Obj.cells #[Value.int IntKind.i64 0, Value.int IntKind.i64 0, Value.slice x10 0 p10] 24)
    have B8 := hd (below_below B7.out NB)
    have X8 := hd (X7.out.keep NB)
    have P8 := hd (P7.out.keep NB)
    have A8 := hd (A7.out.keep NB)
    have Y8 := hd (Y7.out.keepB NB)
    clear B7 X7 P7 A7 Y7 NB
    have a0 := A8.out.cell 0
    have a1 := A8.out.cell 1
    have a2 := A8.out.cell 2
    simp at a0 a1 a2
    go_wp2_with fail
    generalize w10.alloc (Obj.cells #[Value.int IntKind.i64 0, Value.int IntKind.i64 0, Value.slice x10 0 p10] 24) = w11 at *
    have HC := checkB_any (ag := ag) (sq := sq) P8.out HQW.out
    rw [S2.out, HOK.out] at HC
    simp only [if_true] at HC
    refine HC.mono ?_
    rintro e w12 ⟨rfl, hk⟩
    have B9 := hd (below_below B8.out hk)
    have X9 := hd (X8.out.keep hk)
    have P9 := hd (P8.out.keep hk)
    have A9 := hd (A8.out.keep hk)
    have Y9 := hd (Y8.out.keepB hk)
    clear B8 X8 P8 A8 Y8 HC hk a0 a1 a2
    go_wp2_with fail
    refine (eq_bx Y9.out X9.out).mono ?_
    rintro e w13 ⟨rfl, nd, rfl⟩
    rw [decide_eq_true rfl]
    have hk := below_drewN (Below.refl w12.heap.size w12) nd
    have B10 := hd (below_below B9.out hk)
    have X10 := hd (X9.out.keep hk)
    have P10 := hd (P9.out.keep hk)
    have A10 := hd (A9.out.keep hk)
    have Y10 := hd (Y9.out.keepB hk)
    clear B9 X9 P9 A9 Y9 hk
    generalize w12.drewN nd = w13 at *
    go_wp2_with fail
    go_ret
    exact VEnd.mk B10.out

end Go.Proofs.Yteifaipbckhoiaa
