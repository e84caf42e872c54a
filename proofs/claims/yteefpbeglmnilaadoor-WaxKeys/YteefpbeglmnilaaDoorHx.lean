/- The text of a digest; the chapter's examples. -/
import Derived.Test.YteefpbeglmnilaaDoorFb
import Derived.Lib.SlBytesConst
namespace Go.Proofs.YteefpbeglmnilaaDoor
open Go.RowKit
set_option linter.unusedVariables false

/-- The text of bytes. -/
def hexB (x : Int) : List UInt8 := [hx1 (x.toNat / 16), hx1 (x.toNat % 16)]
def hexT (l : List Int) : List UInt8 := l.flatMap hexB

theorem hexT_succ (d : List Int) (k : Nat) (hk : k < d.length) : hexT (d.take (k + 1)) = hexT (d.take k) ++ hexB (d.getD k 0) := by
  unfold hexT
  rw [List.take_succ_eq_append_getElem hk, List.flatMap_append, List.getD_eq_getElem?_getD, List.getElem?_eq_getElem hk]
  simp

theorem hexT_len (d : List Int) (k : Nat) : (hexT (d.take k)).length = 2 * (d.take k).length := by
  unfold hexT
  generalize d.take k = l
  induction l with
  | nil => rfl
  | cons x t ih => rw [List.flatMap_cons, List.length_append, ih, List.length_cons]; simp [hexB]; omega

theorem byt_b4 (x : BitVec 32) : Byt (Sha.b4 x) := fun y hy => by
  unfold Sha.b4 at hy
  simp only [List.mem_cons, List.not_mem_nil, or_false] at hy
  rcases hy with rfl | rfl | rfl | rfl <;> omega
theorem byt_b32 (r : Sha.R) : Byt (Sha.b32 r) := (((((((byt_b4 _).append (byt_b4 _)).append (byt_b4 _)).append (byt_b4 _)).append (byt_b4 _)).append (byt_b4 _)).append (byt_b4 _)).append (byt_b4 _)

theorem ba_append (l m : List UInt8) : (⟨l.toArray⟩ : ByteArray) ++ (⟨m.toArray⟩ : ByteArray) = ⟨(l ++ m).toArray⟩ := by
  apply ByteArray.ext
  simp

set_option maxRecDepth 100000 in
set_option maxHeartbeats 1000000 in
theorem hex_ok (d : List Int) (hl : d.length = 32) (hb : Byt d) (w : World) (h : Glob w) :
    Calls Tryd.prog 17 #[.agg (bs d).toArray] w fun e w' => TextEnd w (hexT d) e w' := by
  have G := hd h
  have HL := hd hl
  have HB := hd hb
  clear h hl hb
  go_enter Tryd.func17, Tryd.ntmps17
  go_wp2_with fail
  generalize hw1 : World.alloc w _ = w1
  have R1 : Hid (Row w1 w.heap.size 24 (bs d)) := hd (by subst hw1; exact Row.new w 24 (bs d))
  have B1 : Hid (Below w.heap.size w w1) := hd (by subst hw1; exact (Below.refl _ _).alloc (Nat.le_refl _) _)
  clear hw1
  go_loopw [3, 4] (fun o i wr => ∃ k : Nat, k ≤ 32 ∧ i = .int .i64 (k : Int) ∧ o = .string ⟨(hexT (d.take k)).toArray⟩ ∧ Row wr w.heap.size 24 (bs d) ∧ Below w.heap.size w wr) (fun _ i _ => 32 - (intOf i).toNat)
  case atStart => exact ⟨0, Nat.zero_le _, rfl, rfl, R1.out, B1.out⟩
  case round =>
    clear R1 B1 w1
    obtain ⟨k, hk, rfl, rfl, hr, hbl⟩ := hrel
    have HR := hd hr
    have HBL := hd hbl
    clear hr hbl
    by_cases hlt : k < 32
    · have hlt' : (k : Int) < 32 := by omega
      have hxr := HB.out.get k
      have c1 := HR.out.cell k (.int .u8 0) (by rw [bs_len, HL.out]; exact hlt)
      have e0 : (bs d).getD k (.int .u8 0) = .int .u8 (d.getD k 0) := by
        rw [bs, List.getD_eq_getElem?_getD, List.getD_eq_getElem?_getD, List.getElem?_map]
        cases d[k]? <;> rfl
      rw [e0] at c1
      have HS := hd (hexT_succ d k (by rw [HL.out]; exact hlt))
      generalize d.getD k 0 = x at *
      obtain ⟨v, rfl⟩ : ∃ v : Nat, x = (v : Int) := ⟨x.toNat, by omega⟩
      have e1 : IntKind.i64.wrap (v : Int) = (v : Int) := by rw [IntKind.wrap_i64]; omega
      have F := hd (fun wv hg => format_ok v (by omega) wv hg)
      go_wp2_with fail
      refine (F.out _ (G.out.keep HBL.out)).mono ?_
      rintro e w2 ⟨rfl, hk2⟩
      have HR2 := hd (HR.out.keep hk2 HR.out.lt)
      have HB2 := hd (below_below HBL.out hk2)
      clear hk2 F
      by_cases hv : v < 16
      · have ex : hx v = [hx1 v] := if_pos hv
        have eb : hexB (v : Int) = [48, hx1 v] := by
          unfold hexB
          rw [Int.toNat_natCast, Nat.div_eq_of_lt hv, Nat.mod_eq_of_lt hv]
          rfl
        rw [ex]
        have sz : (hexT (d.take k)).length ≤ 64 := (by have h := hexT_len d k; rw [List.length_take, HL.out] at h; omega)
        generalize hexT (d.take k) = tx at *
        go_wp2_with fail
        refine (repeat1 _ _).mono ?_
        rintro e w3 ⟨rfl, rfl⟩
        go_wp2_with fail
        go_roundw
        case rel => exact ⟨k + 1, by omega, by go_num, by rw [HS.out, eb]; exact congrArg Value.string (by apply ByteArray.ext; simp), HR2.out, HB2.out⟩
        case measure => simp [intOf]; omega
      · have ex : hx v = [hx1 (v / 16), hx1 (v % 16)] := if_neg hv
        have eb : hexB (v : Int) = [hx1 (v / 16), hx1 (v % 16)] := by
          unfold hexB
          rw [Int.toNat_natCast]
        rw [ex]
        have sz : (hexT (d.take k)).length ≤ 64 := (by have h := hexT_len d k; rw [List.length_take, HL.out] at h; omega)
        generalize hexT (d.take k) = tx at *
        go_wp2_with fail
        refine (repeat0 _ _).mono ?_
        rintro e w3 ⟨rfl, rfl⟩
        go_wp2_with fail
        go_roundw
        case rel => exact ⟨k + 1, by omega, by go_num, by rw [HS.out, eb]; exact congrArg Value.string (by apply ByteArray.ext; simp), HR2.out, HB2.out⟩
        case measure => simp [intOf]; omega
    · have hk32 : k = 32 := by omega
      subst hk32
      rw [List.take_of_length_le (by rw [HL.out]; exact Nat.le_refl _)]
      go_wp2_with fail
      go_ret
      exact ⟨rfl, HBL.out⟩

/-- A law's call that answers true. -/
def TrueEnd (w : World) (e : Ending) (w' : World) : Prop := e = .returned (.bool true) ∧ Below w.heap.size w w'

theorem none_text : hexT (Sha.dig []) = [101, 51, 98, 48, 99, 52, 52, 50, 57, 56, 102, 99, 49, 99, 49, 52, 57, 97, 102, 98, 102, 52, 99, 56, 57, 57, 54, 102, 98, 57, 50, 52, 50, 55, 97, 101, 52, 49, 101, 52, 54, 52, 57, 98, 57, 51, 52, 99, 97, 52, 57, 53, 57, 57, 49, 98, 55, 56, 53, 50, 98, 56, 53, 53] := by
  rw [Sha.none_dig]; decide +kernel
theorem abc_text : hexT (Sha.dig [97, 98, 99]) = [98, 97, 55, 56, 49, 54, 98, 102, 56, 102, 48, 49, 99, 102, 101, 97, 52, 49, 52, 49, 52, 48, 100, 101, 53, 100, 97, 101, 50, 50, 50, 51, 98, 48, 48, 51, 54, 49, 97, 51, 57, 54, 49, 55, 55, 97, 57, 99, 98, 52, 49, 48, 102, 102, 54, 49, 102, 50, 48, 48, 49, 53, 97, 100] := by
  rw [Sha.abc_dig]; decide +kernel

theorem byt_dig (l : List Int) : Byt (Sha.dig l) := byt_b32 _
theorem dig_len (l : List Int) : (Sha.dig l).length = 32 := b32_len _

/-- Bytes of a constant text, as a slice. -/
theorem sl_const (w : World) (l : List Int) (h0 : 0 < l.length) (t : TypeId) (fr : Nat × Nat) (hl : l.length ≤ 140737488355328) : Sl (w.alloc (.cells (bs l).toArray t fr)) (.slice (some ⟨w.heap.size, 0, none⟩) l.length l.length) l := by
  refine Or.inr ⟨w.heap.size, 0, l.length, rfl, h0, Nat.le_refl _, hl, by simp, fun i hi => ?_⟩
  rw [Nat.zero_add, cell_of_row _ w.heap.size i _ t fr (heap_alloc_new w _), List.getElem?_toArray, bs, List.getElem?_map, List.getElem?_eq_getElem hi, List.getD_eq_getElem?_getD, List.getElem?_eq_getElem hi]
  rfl

end Go.Proofs.YteefpbeglmnilaaDoor
