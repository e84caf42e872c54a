/- A byte's hexadecimal text. -/
import Derived.Test.YteefpbeglmnilaaDoorOf
import Derived.Laws.IdiomStrings
import Derived.Laws.Bits64b
namespace Go.Proofs.YteefpbeglmnilaaDoor
open Go.RowKit
set_option linter.unusedVariables false

/-- What is read of the table of bits: that 16 has four zeros behind its one. -/
def Glob (w : World) : Prop := w.cell? ⟨3, 15, none⟩ = some (.int .u8 4)
theorem Glob.keep {w w' : World} (h : Glob w) (k : Below w.heap.size w w') : Glob w' := by
  have hlt : 3 < w.heap.size := World.block_lt_of_cell? w ⟨3, 15, none⟩ h
  unfold Glob
  rw [(kpB k (fun _ => False)).cell (p := ⟨3, 15, none⟩) hlt (fun h => h)]
  exact h

set_option maxHeartbeats 1000000 in
theorem tz64_ok (w : World) (h : Glob w) : Calls Tryd.prog 72 #[.int .u64 16] w fun e w' => e = .returned (.int .i64 4) ∧ w' = w := by
  unfold Glob at h
  have e1 : bits .and .u64 16 (IntKind.u64.wrap (-16)) = 16 := by decide +kernel
  go_enter Tryd.func72, Tryd.ntmps72
  go_wp2_with fail
  go_ret
  exact ⟨rfl, rfl⟩

set_option maxHeartbeats 1000000 in
theorem tz_ok (w : World) (h : Glob w) : Calls Tryd.prog 70 #[.int .u64 16] w fun e w' => e = .returned (.int .i64 4) ∧ w' = w := by
  have H := hd (tz64_ok w h)
  clear h
  go_enter Tryd.func70, Tryd.ntmps70
  go_wp2_with fail
  refine H.out.mono ?_
  rintro e w1 ⟨rfl, rfl⟩
  go_wp2_with fail
  go_ret
  exact ⟨rfl, rfl⟩

set_option maxHeartbeats 1000000 in
theorem pow2_ok (w : World) : Calls Tryd.prog 69 #[.int .i64 16] w fun e w' => e = .returned (.bool true) ∧ w' = w := by
  have e1 : bits .and .i64 16 15 = 0 := by decide +kernel
  go_enter Tryd.func69, Tryd.ntmps69
  go_wp2_with fail
  go_ret
  exact ⟨rfl, rfl⟩

/-- A digit's letter. -/
def hx1 (d : Nat) : UInt8 := UInt8.ofNat (if d < 10 then 48 + d else 87 + d)

theorem dig_at : ∀ d : Fin 16, (((48 :: 49 :: 50 :: 51 :: 52 :: 53 :: 54 :: 55 :: 56 :: 57 :: 97 :: 98 :: 99 :: 100 :: 101 :: 102 :: 103 :: 104 :: 105 :: 106 :: 107 :: 108 :: 109 :: 110 :: 111 :: 112 :: 113 :: 114 :: 115 :: 116 :: 117 :: 118 :: 119 :: 120 :: 121 :: 122 :: []).toArray : Array UInt8)[d.val]?) = some (hx1 d.val) := by decide +kernel

theorem dig_run (d : Nat) (hd : d < 16) (w : World) :
    (Instr.index 9 (.string ⟨(48 :: 49 :: 50 :: 51 :: 52 :: 53 :: 54 :: 55 :: 56 :: 57 :: 97 :: 98 :: 99 :: 100 :: 101 :: 102 :: 103 :: 104 :: 105 :: 106 :: 107 :: 108 :: 109 :: 110 :: 111 :: 112 :: 113 :: 114 :: 115 :: 116 :: 117 :: 118 :: 119 :: 120 :: 121 :: 122 :: []).toArray⟩) (.int .u64 (d : Int))).run Tryd.prog w = .ok (.int .u8 ((hx1 d).toNat : Int)) w := by
  have h := dig_at ⟨d, hd⟩
  rw [run_index_string (h := Tryd.underlying9)]
  rw [dif_pos ⟨by omega, by show (d : Int) < 36; omega⟩]
  simp only [Array.getElem?_eq_some_iff] at h
  obtain ⟨hlt, h⟩ := h
  congr 3
  show ((_ : Array UInt8)[(d : Int).toNat]'_).toNat = (hx1 d).toNat
  rw [← h]
  rfl

/-- The text of a number below 256. -/
def hx (v : Nat) : List UInt8 := if v < 16 then [hx1 v] else [hx1 (v / 16), hx1 (v % 16)]

theorem z107 : Tryd.zeroCells112 = (bs (List.replicate 65 0)).toArray := by kernel_rfl

set_option maxRecDepth 100000 in
set_option maxHeartbeats 1000000 in
theorem fb_small (v : Nat) (hv : v < 16) (w : World) (h : Glob w) :
    Calls Tryd.prog 61 #[.slice none 0 0, .int .u64 (v : Int), .int .i64 16, .bool false, .bool false] w fun e w' => e = .returned (.tuple #[.slice none 0 0, .string ⟨#[hx1 v]⟩]) ∧ Below w.heap.size w w' := by
  have R0 : Hid (Row (w.alloc (.cells Tryd.zeroCells112 112)) w.heap.size 112 (bs (List.replicate 65 0))) := hd (Row.new' w 112 _ _ z107)
  have B0 : Hid (Below w.heap.size w (w.alloc (.cells Tryd.zeroCells112 112))) := hd ((Below.refl _ _).alloc (Nat.le_refl _) _)
  have G0 := hd (h.keep B0.out)
  clear h
  go_enter Tryd.func61, Tryd.ntmps61
  go_wp2_with fail
  generalize w.alloc (.cells Tryd.zeroCells112 112) = w1 at *
  generalize hN : w.heap.size = N at *
  have HN := hd hN
  clear hN
  refine (pow2_ok w1).mono ?_
  rintro e w2 ⟨rfl, rfl⟩
  go_wp2_with fail
  refine (tz_ok _ G0.out).mono ?_
  rintro e w3 ⟨rfl, rfl⟩
  have c1 := R0.out.cell 64 .nilFunc (by rw [bs_len]; decide)
  have f1 := R0.out.frozen 64
  have e0 : (v : Int) < 16 := by omega
  have X := dig_run v hv
  have R1 := R0.out.set 64 (.int .u8 ((hx1 v).toNat : Int))
  have CV : Hid ((convert 22 9 (.slice (some ⟨N, 64, none⟩) 1 1)).run Tryd.prog (w3.setCell ⟨N, 64, none⟩ (.int .u8 ((hx1 v).toNat : Int))) = .ok (.string ⟨#[hx1 v]⟩) (w3.setCell ⟨N, 64, none⟩ (.int .u8 ((hx1 v).toNat : Int)))) :=
    run_convert_bytes_back _ 22 9 5 ⟨N, 64, none⟩ 1 [hx1 v] und25 Tryd.underlying5 Tryd.underlying9 (fun j hj => by
      have : j = 0 := by simp at hj; exact hj
      subst this
      rw [Addr.add_lit]
      exact R1.get (by simp [bs]))
  have B1 : Hid (Below N w (w3.setCell ⟨N, 64, none⟩ (.int .u8 ((hx1 v).toNat : Int)))) := hd (below_setCell B0.out _ _ (Nat.le_refl _))
  generalize (bs (List.replicate 65 0)).getD 64 .nilFunc = old at c1
  generalize ((hx1 v).toNat : Int) = χ at *
  have cv := CV.out
  clear CV R1
  go_wp2_with fail
  refine wp_loop_rounds 1 ?_
  rw [rounds_succ]
  go_wp2_with fail
  go_ret2
  exact ⟨rfl, by rw [HN.out]; exact B1.out⟩

set_option maxRecDepth 100000 in
set_option maxHeartbeats 1000000 in
theorem fb_big (v : Nat) (h0 : 16 ≤ v) (hv : v < 256) (w : World) (h : Glob w) :
    Calls Tryd.prog 61 #[.slice none 0 0, .int .u64 (v : Int), .int .i64 16, .bool false, .bool false] w fun e w' => e = .returned (.tuple #[.slice none 0 0, .string ⟨#[hx1 (v / 16), hx1 (v % 16)]⟩]) ∧ Below w.heap.size w w' := by
  have R0 : Hid (Row (w.alloc (.cells Tryd.zeroCells112 112)) w.heap.size 112 (bs (List.replicate 65 0))) := hd (Row.new' w 112 _ _ z107)
  have B0 : Hid (Below w.heap.size w (w.alloc (.cells Tryd.zeroCells112 112))) := hd ((Below.refl _ _).alloc (Nat.le_refl _) _)
  have G0 := hd (h.keep B0.out)
  clear h
  go_enter Tryd.func61, Tryd.ntmps61
  go_wp2_with fail
  generalize w.alloc (.cells Tryd.zeroCells112 112) = w1 at *
  generalize hN : w.heap.size = N at *
  have HN := hd hN
  clear hN
  refine (pow2_ok w1).mono ?_
  rintro e w2 ⟨rfl, rfl⟩
  go_wp2_with fail
  refine (tz_ok _ G0.out).mono ?_
  rintro e w3 ⟨rfl, rfl⟩
  have c1 := R0.out.cell 64 .nilFunc (by rw [bs_len]; decide)
  have f1 := R0.out.frozen 64
  have e0 : (16 : Int) ≤ (v : Int) := by omega
  have e1 : ((v / 16 : Nat) : Int) < 16 := by omega
  have e2 : bits .and .u64 (v : Int) 15 = ((v % 16 : Nat) : Int) := by
    have h := bits_and_u64_nat v 15 (by omega) (by omega)
    rw [Nat.and_two_pow_sub_one_eq_mod v 4] at h
    exact h
  have e3 : (v : Int) / 16 = ((v / 16 : Nat) : Int) := by omega
  have X := dig_run (v % 16) (by omega)
  have Y := dig_run (v / 16) (by omega)
  have R1 := R0.out.set 64 (.int .u8 ((hx1 (v % 16)).toNat : Int))
  have c2 := R1.cell 63 .nilFunc (by rw [List.length_set, bs_len]; decide)
  have f2 := R1.frozen 63
  have R2 := R1.set 63 (.int .u8 ((hx1 (v / 16)).toNat : Int))
  have CV : Hid ((convert 22 9 (.slice (some ⟨N, 63, none⟩) 2 2)).run Tryd.prog ((w3.setCell ⟨N, 64, none⟩ (.int .u8 ((hx1 (v % 16)).toNat : Int))).setCell ⟨N, 63, none⟩ (.int .u8 ((hx1 (v / 16)).toNat : Int))) = .ok (.string ⟨#[hx1 (v / 16), hx1 (v % 16)]⟩) ((w3.setCell ⟨N, 64, none⟩ (.int .u8 ((hx1 (v % 16)).toNat : Int))).setCell ⟨N, 63, none⟩ (.int .u8 ((hx1 (v / 16)).toNat : Int)))) :=
    run_convert_bytes_back _ 22 9 5 ⟨N, 63, none⟩ 2 [hx1 (v / 16), hx1 (v % 16)] und25 Tryd.underlying5 Tryd.underlying9 (fun j hj => by
      rw [Addr.add_lit]
      match j, hj with
      | 0, _ => exact R2.get (by simp [bs])
      | 1, _ => exact R2.get (by simp [bs]))
  have B1 : Hid (Below N w ((w3.setCell ⟨N, 64, none⟩ (.int .u8 ((hx1 (v % 16)).toNat : Int))).setCell ⟨N, 63, none⟩ (.int .u8 ((hx1 (v / 16)).toNat : Int)))) := hd (below_setCell (below_setCell B0.out _ _ (Nat.le_refl _)) _ _ (Nat.le_refl _))
  generalize (bs (List.replicate 65 0)).getD 64 .nilFunc = old at c1
  generalize (List.set (bs (List.replicate 65 0)) 64 (.int .u8 ((hx1 (v % 16)).toNat : Int))).getD 63 .nilFunc = old2 at c2
  clear R1 R2 R0
  generalize ((hx1 (v % 16)).toNat : Int) = χ at *
  generalize ((hx1 (v / 16)).toNat : Int) = ψ at *
  generalize ((v % 16 : Nat) : Int) = ρ at *
  generalize ((v / 16 : Nat) : Int) = κ at *
  have cv := CV.out
  clear CV
  go_wp2_with fail
  refine wp_loop_rounds 2 ?_
  rw [rounds_succ]
  go_wp2_with fail
  rw [rounds_succ]
  go_wp2_with fail
  go_ret2
  exact ⟨rfl, by rw [HN.out]; exact B1.out⟩

/-- How a text is answered. -/
def TextEnd (w : World) (l : List UInt8) (e : Ending) (w' : World) : Prop := e = .returned (.string ⟨l.toArray⟩) ∧ Below w.heap.size w w'

theorem fb_ok (v : Nat) (hv : v < 256) (w : World) (h : Glob w) :
    Calls Tryd.prog 61 #[.slice none 0 0, .int .u64 (v : Int), .int .i64 16, .bool false, .bool false] w fun e w' => e = .returned (.tuple #[.slice none 0 0, .string ⟨(hx v).toArray⟩]) ∧ Below w.heap.size w w' := by
  unfold hx
  by_cases h0 : v < 16
  · rw [if_pos h0]; exact fb_small v h0 w h
  · rw [if_neg h0]; exact fb_big v (by omega) hv w h

set_option maxHeartbeats 1000000 in
theorem fi_ok (v : Nat) (hv : v < 256) (w : World) (h : Glob w) :
    Calls Tryd.prog 44 #[.int .i64 (v : Int), .int .i64 16] w fun e w' => TextEnd w (hx v) e w' := by
  have H := hd (fb_ok v hv w h)
  clear h
  have e1 : IntKind.u64.wrap (v : Int) = (v : Int) := by rw [IntKind.wrap_u64]; omega
  have e2 : ¬ ((v : Int) < 0) := by omega
  have e3 : (0 : Int) ≤ (v : Int) := by omega
  generalize hx v = a at *
  generalize (v : Int) = ν at *
  go_enter Tryd.func44, Tryd.ntmps44
  go_wp2_with fail
  refine H.out.mono ?_
  rintro e w1 ⟨rfl, hk⟩
  have HK := hd hk
  clear hk
  go_wp2_with fail
  go_ret
  exact ⟨rfl, HK.out⟩

set_option maxHeartbeats 1000000 in
theorem format_ok (v : Nat) (hv : v < 256) (w : World) (h : Glob w) :
    Calls Tryd.prog 30 #[.int .i64 (v : Int), .int .i64 16] w fun e w' => TextEnd w (hx v) e w' := by
  have H := hd (fi_ok v hv w h)
  clear h
  generalize hx v = a at *
  generalize (v : Int) = ν at *
  go_enter Tryd.func30, Tryd.ntmps30
  go_wp2_with fail
  refine H.out.mono ?_
  rintro e w1 ⟨rfl, hk⟩
  have HK := hd hk
  clear hk
  go_wp2_with fail
  go_ret
  exact ⟨rfl, HK.out⟩

set_option maxRecDepth 100000 in
set_option maxHeartbeats 1000000 in
theorem repeat0 (s : ByteArray) (w : World) : Calls Tryd.prog 16 #[.string s, .int .i64 0] w fun e w' => e = .returned (.string ⟨#[]⟩) ∧ w' = w := by
  go_enter Tryd.func16, Tryd.ntmps16
  go_wp2_with fail
  go_ret
  exact ⟨rfl, rfl⟩
set_option maxRecDepth 100000 in
set_option maxHeartbeats 1000000 in
theorem repeat1 (s : ByteArray) (w : World) : Calls Tryd.prog 16 #[.string s, .int .i64 1] w fun e w' => e = .returned (.string s) ∧ w' = w := by
  go_enter Tryd.func16, Tryd.ntmps16
  go_wp2_with fail
  go_ret
  exact ⟨rfl, rfl⟩

end Go.Proofs.YteefpbeglmnilaaDoor
