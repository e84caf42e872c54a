/- The document: its reader. -/
import Derived.Test.YteifaipbckhoiaaNx
namespace Go.Proofs.Yteifaipbckhoiaa
open Go.RowKit
set_option linter.unusedVariables false

section
set_option maxHeartbeats 400000 in
theorem numX_err {w : World} {xb : Nat} (most e0 : Int) (hc1 : w.cell? ⟨xb, 1, none⟩ = some (.int .i64 e0)) (he : e0 ≠ 0) :
    Calls Try.prog 69 #[.pointer (some ⟨xb, 0, none⟩), .int .i64 most] w fun e w' => e = .returned (.int .i64 0) ∧ w' = w := by
  have hn : (e0 != 0) = true := by rw [bne_iff_ne]; exact he
  clear he
  go_enter Try.func69, Try.ntmps69
  go_wp2
  go_ret
  exact ⟨rfl, rfl⟩

set_option maxHeartbeats 400000 in
theorem numX_none {w : World} {xb cap : Nat} {a : Option Addr} (most : Int) (hc0 : w.cell? ⟨xb, 0, none⟩ = some (.slice a 0 cap)) (hc1 : w.cell? ⟨xb, 1, none⟩ = some (.int .i64 0)) (hf1 : w.frozen? ⟨xb, 1, none⟩ = false) :
    Calls Try.prog 69 #[.pointer (some ⟨xb, 0, none⟩), .int .i64 most] w fun e w' => e = .returned (.int .i64 0) ∧ w' = w.setCell ⟨xb, 1, none⟩ (.int .i64 3) := by
  go_enter Try.func69, Try.ntmps69
  go_wp2
  go_ret
  exact ⟨rfl, rfl⟩

set_option maxRecDepth 100000 in
set_option maxHeartbeats 4000000 in
theorem numX_short2 {w : World} {xb b off cap n : Nat} (most x : Int) (hc0 : w.cell? ⟨xb, 0, none⟩ = some (.slice (some ⟨b, off, none⟩) n cap)) (hc1 : w.cell? ⟨xb, 1, none⟩ = some (.int .i64 0)) (hf1 : w.frozen? ⟨xb, 1, none⟩ = false)
    (hn : 0 < n) (hcx : w.cell? ⟨b, off, none⟩ = some (.int .u8 x)) (hr0 : 128 ≤ x) (hr1 : x < 192) (hs : n < 2) :
    Calls Try.prog 69 #[.pointer (some ⟨xb, 0, none⟩), .int .i64 most] w fun e w' => e = .returned (.int .i64 0) ∧ ∃ nq, w' = (w.drewN nq).setCell ⟨xb, 1, none⟩ (.int .i64 3) := by
  have hz : ((n : Int) == 0) = false := by rw [beq_eq_false_iff_ne]; omega
  have hpos : (0 : Int) < (n : Int) := by omega
  have hs' : (n : Int) < 2 := by omega
  have hx0 : 0 ≤ x := by omega
  have hx1 : x ≤ 255 := by omega
  have hq0 : (bits BinOp.and IntKind.u8 x 128 != 0) = true := tb2_0 x (by omega) (by omega)
  have hq1 : (bits BinOp.and IntKind.u8 x 64 != 0) = false := tb2_1 x (by omega) (by omega)
  go_enter Try.func69, Try.ntmps69
  go_wp2
  refine wp_loop_rounds 2 ?_
  rw [rounds_succ]
  go_wp2_with fail
  go_quiet (fail)
  go_wp2_with fail
  rw [rounds_succ]
  go_wp2_with fail
  go_quiet (fail)
  go_wp2_with fail
  go_ret
  exact ⟨rfl, _, rfl⟩

set_option maxRecDepth 100000 in
set_option maxHeartbeats 4000000 in
theorem numX_short3 {w : World} {xb b off cap n : Nat} (most x : Int) (hc0 : w.cell? ⟨xb, 0, none⟩ = some (.slice (some ⟨b, off, none⟩) n cap)) (hc1 : w.cell? ⟨xb, 1, none⟩ = some (.int .i64 0)) (hf1 : w.frozen? ⟨xb, 1, none⟩ = false)
    (hn : 0 < n) (hcx : w.cell? ⟨b, off, none⟩ = some (.int .u8 x)) (hr0 : 192 ≤ x) (hr1 : x < 224) (hs : n < 3) :
    Calls Try.prog 69 #[.pointer (some ⟨xb, 0, none⟩), .int .i64 most] w fun e w' => e = .returned (.int .i64 0) ∧ ∃ nq, w' = (w.drewN nq).setCell ⟨xb, 1, none⟩ (.int .i64 3) := by
  have hz : ((n : Int) == 0) = false := by rw [beq_eq_false_iff_ne]; omega
  have hpos : (0 : Int) < (n : Int) := by omega
  have hs' : (n : Int) < 3 := by omega
  have hx0 : 0 ≤ x := by omega
  have hx1 : x ≤ 255 := by omega
  have hq0 : (bits BinOp.and IntKind.u8 x 128 != 0) = true := tb3_0 x (by omega) (by omega)
  have hq1 : (bits BinOp.and IntKind.u8 x 64 != 0) = true := tb3_1 x (by omega) (by omega)
  have hq2 : (bits BinOp.and IntKind.u8 x 32 != 0) = false := tb3_2 x (by omega) (by omega)
  go_enter Try.func69, Try.ntmps69
  go_wp2
  refine wp_loop_rounds 3 ?_
  rw [rounds_succ]
  go_wp2_with fail
  go_quiet (fail)
  go_wp2_with fail
  rw [rounds_succ]
  go_wp2_with fail
  go_quiet (fail)
  go_wp2_with fail
  rw [rounds_succ]
  go_wp2_with fail
  go_quiet (fail)
  go_wp2_with fail
  go_ret
  exact ⟨rfl, _, rfl⟩

set_option maxRecDepth 100000 in
set_option maxHeartbeats 4000000 in
theorem numX_short4 {w : World} {xb b off cap n : Nat} (most x : Int) (hc0 : w.cell? ⟨xb, 0, none⟩ = some (.slice (some ⟨b, off, none⟩) n cap)) (hc1 : w.cell? ⟨xb, 1, none⟩ = some (.int .i64 0)) (hf1 : w.frozen? ⟨xb, 1, none⟩ = false)
    (hn : 0 < n) (hcx : w.cell? ⟨b, off, none⟩ = some (.int .u8 x)) (hr0 : 224 ≤ x) (hr1 : x < 240) (hs : n < 4) :
    Calls Try.prog 69 #[.pointer (some ⟨xb, 0, none⟩), .int .i64 most] w fun e w' => e = .returned (.int .i64 0) ∧ ∃ nq, w' = (w.drewN nq).setCell ⟨xb, 1, none⟩ (.int .i64 3) := by
  have hz : ((n : Int) == 0) = false := by rw [beq_eq_false_iff_ne]; omega
  have hpos : (0 : Int) < (n : Int) := by omega
  have hs' : (n : Int) < 4 := by omega
  have hx0 : 0 ≤ x := by omega
  have hx1 : x ≤ 255 := by omega
  have hq0 : (bits BinOp.and IntKind.u8 x 128 != 0) = true := tb4_0 x (by omega) (by omega)
  have hq1 : (bits BinOp.and IntKind.u8 x 64 != 0) = true := tb4_1 x (by omega) (by omega)
  have hq2 : (bits BinOp.and IntKind.u8 x 32 != 0) = true := tb4_2 x (by omega) (by omega)
  have hq3 : (bits BinOp.and IntKind.u8 x 16 != 0) = false := tb4_3 x (by omega) (by omega)
  go_enter Try.func69, Try.ntmps69
  go_wp2
  refine wp_loop_rounds 4 ?_
  rw [rounds_succ]
  go_wp2_with fail
  go_quiet (fail)
  go_wp2_with fail
  rw [rounds_succ]
  go_wp2_with fail
  go_quiet (fail)
  go_wp2_with fail
  rw [rounds_succ]
  go_wp2_with fail
  go_quiet (fail)
  go_wp2_with fail
  rw [rounds_succ]
  go_wp2_with fail
  go_quiet (fail)
  go_wp2_with fail
  go_ret
  exact ⟨rfl, _, rfl⟩

set_option maxRecDepth 100000 in
set_option maxHeartbeats 4000000 in
theorem numX_short5 {w : World} {xb b off cap n : Nat} (most x : Int) (hc0 : w.cell? ⟨xb, 0, none⟩ = some (.slice (some ⟨b, off, none⟩) n cap)) (hc1 : w.cell? ⟨xb, 1, none⟩ = some (.int .i64 0)) (hf1 : w.frozen? ⟨xb, 1, none⟩ = false)
    (hn : 0 < n) (hcx : w.cell? ⟨b, off, none⟩ = some (.int .u8 x)) (hr0 : 240 ≤ x) (hr1 : x < 248) (hs : n < 5) :
    Calls Try.prog 69 #[.pointer (some ⟨xb, 0, none⟩), .int .i64 most] w fun e w' => e = .returned (.int .i64 0) ∧ ∃ nq, w' = (w.drewN nq).setCell ⟨xb, 1, none⟩ (.int .i64 3) := by
  have hz : ((n : Int) == 0) = false := by rw [beq_eq_false_iff_ne]; omega
  have hpos : (0 : Int) < (n : Int) := by omega
  have hs' : (n : Int) < 5 := by omega
  have hx0 : 0 ≤ x := by omega
  have hx1 : x ≤ 255 := by omega
  have hq0 : (bits BinOp.and IntKind.u8 x 128 != 0) = true := tb5_0 x (by omega) (by omega)
  have hq1 : (bits BinOp.and IntKind.u8 x 64 != 0) = true := tb5_1 x (by omega) (by omega)
  have hq2 : (bits BinOp.and IntKind.u8 x 32 != 0) = true := tb5_2 x (by omega) (by omega)
  have hq3 : (bits BinOp.and IntKind.u8 x 16 != 0) = true := tb5_3 x (by omega) (by omega)
  have hq4 : (bits BinOp.and IntKind.u8 x 8 != 0) = false := tb5_4 x (by omega) (by omega)
  go_enter Try.func69, Try.ntmps69
  go_wp2
  refine wp_loop_rounds 5 ?_
  rw [rounds_succ]
  go_wp2_with fail
  go_quiet (fail)
  go_wp2_with fail
  rw [rounds_succ]
  go_wp2_with fail
  go_quiet (fail)
  go_wp2_with fail
  rw [rounds_succ]
  go_wp2_with fail
  go_quiet (fail)
  go_wp2_with fail
  rw [rounds_succ]
  go_wp2_with fail
  go_quiet (fail)
  go_wp2_with fail
  rw [rounds_succ]
  go_wp2_with fail
  go_quiet (fail)
  go_wp2_with fail
  go_ret
  exact ⟨rfl, _, rfl⟩

set_option maxRecDepth 100000 in
set_option maxHeartbeats 4000000 in
theorem numX_short6 {w : World} {xb b off cap n : Nat} (most x : Int) (hc0 : w.cell? ⟨xb, 0, none⟩ = some (.slice (some ⟨b, off, none⟩) n cap)) (hc1 : w.cell? ⟨xb, 1, none⟩ = some (.int .i64 0)) (hf1 : w.frozen? ⟨xb, 1, none⟩ = false)
    (hn : 0 < n) (hcx : w.cell? ⟨b, off, none⟩ = some (.int .u8 x)) (hr0 : 248 ≤ x) (hr1 : x < 252) (hs : n < 6) :
    Calls Try.prog 69 #[.pointer (some ⟨xb, 0, none⟩), .int .i64 most] w fun e w' => e = .returned (.int .i64 0) ∧ ∃ nq, w' = (w.drewN nq).setCell ⟨xb, 1, none⟩ (.int .i64 3) := by
  have hz : ((n : Int) == 0) = false := by rw [beq_eq_false_iff_ne]; omega
  have hpos : (0 : Int) < (n : Int) := by omega
  have hs' : (n : Int) < 6 := by omega
  have hx0 : 0 ≤ x := by omega
  have hx1 : x ≤ 255 := by omega
  have hq0 : (bits BinOp.and IntKind.u8 x 128 != 0) = true := tb6_0 x (by omega) (by omega)
  have hq1 : (bits BinOp.and IntKind.u8 x 64 != 0) = true := tb6_1 x (by omega) (by omega)
  have hq2 : (bits BinOp.and IntKind.u8 x 32 != 0) = true := tb6_2 x (by omega) (by omega)
  have hq3 : (bits BinOp.and IntKind.u8 x 16 != 0) = true := tb6_3 x (by omega) (by omega)
  have hq4 : (bits BinOp.and IntKind.u8 x 8 != 0) = true := tb6_4 x (by omega) (by omega)
  have hq5 : (bits BinOp.and IntKind.u8 x 4 != 0) = false := tb6_5 x (by omega) (by omega)
  go_enter Try.func69, Try.ntmps69
  go_wp2
  refine wp_loop_rounds 6 ?_
  rw [rounds_succ]
  go_wp2_with fail
  go_quiet (fail)
  go_wp2_with fail
  rw [rounds_succ]
  go_wp2_with fail
  go_quiet (fail)
  go_wp2_with fail
  rw [rounds_succ]
  go_wp2_with fail
  go_quiet (fail)
  go_wp2_with fail
  rw [rounds_succ]
  go_wp2_with fail
  go_quiet (fail)
  go_wp2_with fail
  rw [rounds_succ]
  go_wp2_with fail
  go_quiet (fail)
  go_wp2_with fail
  rw [rounds_succ]
  go_wp2_with fail
  go_quiet (fail)
  go_wp2_with fail
  go_ret
  exact ⟨rfl, _, rfl⟩

set_option maxRecDepth 100000 in
set_option maxHeartbeats 4000000 in
theorem numX_short7 {w : World} {xb b off cap n : Nat} (most x : Int) (hc0 : w.cell? ⟨xb, 0, none⟩ = some (.slice (some ⟨b, off, none⟩) n cap)) (hc1 : w.cell? ⟨xb, 1, none⟩ = some (.int .i64 0)) (hf1 : w.frozen? ⟨xb, 1, none⟩ = false)
    (hn : 0 < n) (hcx : w.cell? ⟨b, off, none⟩ = some (.int .u8 x)) (hr0 : 252 ≤ x) (hr1 : x < 254) (hs : n < 7) :
    Calls Try.prog 69 #[.pointer (some ⟨xb, 0, none⟩), .int .i64 most] w fun e w' => e = .returned (.int .i64 0) ∧ ∃ nq, w' = (w.drewN nq).setCell ⟨xb, 1, none⟩ (.int .i64 3) := by
  have hz : ((n : Int) == 0) = false := by rw [beq_eq_false_iff_ne]; omega
  have hpos : (0 : Int) < (n : Int) := by omega
  have hs' : (n : Int) < 7 := by omega
  have hx0 : 0 ≤ x := by omega
  have hx1 : x ≤ 255 := by omega
  have hq0 : (bits BinOp.and IntKind.u8 x 128 != 0) = true := tb7_0 x (by omega) (by omega)
  have hq1 : (bits BinOp.and IntKind.u8 x 64 != 0) = true := tb7_1 x (by omega) (by omega)
  have hq2 : (bits BinOp.and IntKind.u8 x 32 != 0) = true := tb7_2 x (by omega) (by omega)
  have hq3 : (bits BinOp.and IntKind.u8 x 16 != 0) = true := tb7_3 x (by omega) (by omega)
  have hq4 : (bits BinOp.and IntKind.u8 x 8 != 0) = true := tb7_4 x (by omega) (by omega)
  have hq5 : (bits BinOp.and IntKind.u8 x 4 != 0) = true := tb7_5 x (by omega) (by omega)
  have hq6 : (bits BinOp.and IntKind.u8 x 2 != 0) = false := tb7_6 x (by omega) (by omega)
  go_enter Try.func69, Try.ntmps69
  go_wp2
  refine wp_loop_rounds 7 ?_
  rw [rounds_succ]
  go_wp2_with fail
  go_quiet (fail)
  go_wp2_with fail
  rw [rounds_succ]
  go_wp2_with fail
  go_quiet (fail)
  go_wp2_with fail
  rw [rounds_succ]
  go_wp2_with fail
  go_quiet (fail)
  go_wp2_with fail
  rw [rounds_succ]
  go_wp2_with fail
  go_quiet (fail)
  go_wp2_with fail
  rw [rounds_succ]
  go_wp2_with fail
  go_quiet (fail)
  go_wp2_with fail
  rw [rounds_succ]
  go_wp2_with fail
  go_quiet (fail)
  go_wp2_with fail
  rw [rounds_succ]
  go_wp2_with fail
  go_quiet (fail)
  go_wp2_with fail
  go_ret
  exact ⟨rfl, _, rfl⟩

set_option maxRecDepth 100000 in
set_option maxHeartbeats 4000000 in
theorem numX_short8 {w : World} {xb b off cap n : Nat} (most x : Int) (hc0 : w.cell? ⟨xb, 0, none⟩ = some (.slice (some ⟨b, off, none⟩) n cap)) (hc1 : w.cell? ⟨xb, 1, none⟩ = some (.int .i64 0)) (hf1 : w.frozen? ⟨xb, 1, none⟩ = false)
    (hn : 0 < n) (hcx : w.cell? ⟨b, off, none⟩ = some (.int .u8 x)) (hr0 : 254 ≤ x) (hr1 : x < 255) (hs : n < 8) :
    Calls Try.prog 69 #[.pointer (some ⟨xb, 0, none⟩), .int .i64 most] w fun e w' => e = .returned (.int .i64 0) ∧ ∃ nq, w' = (w.drewN nq).setCell ⟨xb, 1, none⟩ (.int .i64 3) := by
  have hz : ((n : Int) == 0) = false := by rw [beq_eq_false_iff_ne]; omega
  have hpos : (0 : Int) < (n : Int) := by omega
  have hs' : (n : Int) < 8 := by omega
  have hx0 : 0 ≤ x := by omega
  have hx1 : x ≤ 255 := by omega
  have hq0 : (bits BinOp.and IntKind.u8 x 128 != 0) = true := tb8_0 x (by omega) (by omega)
  have hq1 : (bits BinOp.and IntKind.u8 x 64 != 0) = true := tb8_1 x (by omega) (by omega)
  have hq2 : (bits BinOp.and IntKind.u8 x 32 != 0) = true := tb8_2 x (by omega) (by omega)
  have hq3 : (bits BinOp.and IntKind.u8 x 16 != 0) = true := tb8_3 x (by omega) (by omega)
  have hq4 : (bits BinOp.and IntKind.u8 x 8 != 0) = true := tb8_4 x (by omega) (by omega)
  have hq5 : (bits BinOp.and IntKind.u8 x 4 != 0) = true := tb8_5 x (by omega) (by omega)
  have hq6 : (bits BinOp.and IntKind.u8 x 2 != 0) = true := tb8_6 x (by omega) (by omega)
  have hq7 : (bits BinOp.and IntKind.u8 x 1 != 0) = false := tb8_7 x (by omega) (by omega)
  go_enter Try.func69, Try.ntmps69
  go_wp2
  refine wp_loop_rounds 8 ?_
  rw [rounds_succ]
  go_wp2_with fail
  go_quiet (fail)
  go_wp2_with fail
  rw [rounds_succ]
  go_wp2_with fail
  go_quiet (fail)
  go_wp2_with fail
  rw [rounds_succ]
  go_wp2_with fail
  go_quiet (fail)
  go_wp2_with fail
  rw [rounds_succ]
  go_wp2_with fail
  go_quiet (fail)
  go_wp2_with fail
  rw [rounds_succ]
  go_wp2_with fail
  go_quiet (fail)
  go_wp2_with fail
  rw [rounds_succ]
  go_wp2_with fail
  go_quiet (fail)
  go_wp2_with fail
  rw [rounds_succ]
  go_wp2_with fail
  go_quiet (fail)
  go_wp2_with fail
  rw [rounds_succ]
  go_wp2_with fail
  go_quiet (fail)
  go_wp2_with fail
  go_ret
  exact ⟨rfl, _, rfl⟩

set_option maxRecDepth 100000 in
set_option maxHeartbeats 4000000 in
theorem numX_nine {w : World} {xb b off cap n : Nat} (most x : Int) (hc0 : w.cell? ⟨xb, 0, none⟩ = some (.slice (some ⟨b, off, none⟩) n cap)) (hc1 : w.cell? ⟨xb, 1, none⟩ = some (.int .i64 0)) (hf1 : w.frozen? ⟨xb, 1, none⟩ = false)
    (hn : 0 < n) (hcx : w.cell? ⟨b, off, none⟩ = some (.int .u8 x)) (hr0 : 255 ≤ x) (hr1 : x < 256) :
    Calls Try.prog 69 #[.pointer (some ⟨xb, 0, none⟩), .int .i64 most] w fun e w' => e = .returned (.int .i64 0) ∧ ∃ nq, w' = (w.drewN nq).setCell ⟨xb, 1, none⟩ (.int .i64 4) := by
  have hz : ((n : Int) == 0) = false := by rw [beq_eq_false_iff_ne]; omega
  have hpos : (0 : Int) < (n : Int) := by omega
  have hx0 : 0 ≤ x := by omega
  have hx1 : x ≤ 255 := by omega
  have hq0 : (bits BinOp.and IntKind.u8 x 128 != 0) = true := by obtain rfl : x = 255 := (by omega); decide +kernel
  have hq1 : (bits BinOp.and IntKind.u8 x 64 != 0) = true := by obtain rfl : x = 255 := (by omega); decide +kernel
  have hq2 : (bits BinOp.and IntKind.u8 x 32 != 0) = true := by obtain rfl : x = 255 := (by omega); decide +kernel
  have hq3 : (bits BinOp.and IntKind.u8 x 16 != 0) = true := by obtain rfl : x = 255 := (by omega); decide +kernel
  have hq4 : (bits BinOp.and IntKind.u8 x 8 != 0) = true := by obtain rfl : x = 255 := (by omega); decide +kernel
  have hq5 : (bits BinOp.and IntKind.u8 x 4 != 0) = true := by obtain rfl : x = 255 := (by omega); decide +kernel
  have hq6 : (bits BinOp.and IntKind.u8 x 2 != 0) = true := by obtain rfl : x = 255 := (by omega); decide +kernel
  have hq7 : (bits BinOp.and IntKind.u8 x 1 != 0) = true := by obtain rfl : x = 255 := (by omega); decide +kernel
  go_enter Try.func69, Try.ntmps69
  go_wp2
  refine wp_loop_rounds 9 ?_
  rw [rounds_succ]
  go_wp2_with fail
  go_quiet (fail)
  go_wp2_with fail
  rw [rounds_succ]
  go_wp2_with fail
  go_quiet (fail)
  go_wp2_with fail
  rw [rounds_succ]
  go_wp2_with fail
  go_quiet (fail)
  go_wp2_with fail
  rw [rounds_succ]
  go_wp2_with fail
  go_quiet (fail)
  go_wp2_with fail
  rw [rounds_succ]
  go_wp2_with fail
  go_quiet (fail)
  go_wp2_with fail
  rw [rounds_succ]
  go_wp2_with fail
  go_quiet (fail)
  go_wp2_with fail
  rw [rounds_succ]
  go_wp2_with fail
  go_quiet (fail)
  go_wp2_with fail
  rw [rounds_succ]
  go_wp2_with fail
  go_quiet (fail)
  go_wp2_with fail
  rw [rounds_succ]
  go_wp2_with fail
  go_quiet (fail)
  go_wp2_with fail
  go_ret
  exact ⟨rfl, _, rfl⟩

variable {XB : Nat}

theorem Rx.drewN {w : World} {xb : Nat} {l : List Int} {e : Int} (h : Rx XB w xb l e) (n : Nat) : Rx XB (w.drewN n) xb l e := by
  obtain ⟨h0, ⟨v, h2, h3⟩, h4, h5, h6⟩ := h
  exact ⟨h0, ⟨v, h2, h3.keep ((Kp.refl (fun _ => False) w).drewN n) (fun _ _ _ h => h)⟩, h4, h5, h6⟩

/-- What the document's reader tells when a number up to 'most' is asked of it. -/
def xStep (most : Int) (l : List Int) (e : Int) : Int × List Int × Int :=
  if e ≠ 0 then (0, l, e) else if (Num.num most l).2.1 ≠ 0 then (0, l, (Num.num most l).2.1) else ((Num.num most l).1, l.drop (Num.num most l).2.2, 0)

def XEnd (XB : Nat) (w : World) (xb : Nat) (r : Int × List Int × Int) (e : Ending) (w' : World) : Prop :=
  e = .returned (.int .i64 r.1) ∧ Rx XB w' xb r.2.1 r.2.2 ∧ Kp (fun b => b = xb) w w'

theorem told_rng (x : Int) (h0 : 0 ≤ x) (h1 : x ≤ 255) : (Num.told x = 1 ∧ 0 ≤ x ∧ x < 128) ∨ (Num.told x = 2 ∧ 128 ≤ x ∧ x < 192) ∨ (Num.told x = 3 ∧ 192 ≤ x ∧ x < 224) ∨ (Num.told x = 4 ∧ 224 ≤ x ∧ x < 240) ∨ (Num.told x = 5 ∧ 240 ≤ x ∧ x < 248)
    ∨ (Num.told x = 6 ∧ 248 ≤ x ∧ x < 252) ∨ (Num.told x = 7 ∧ 252 ≤ x ∧ x < 254) ∨ (Num.told x = 8 ∧ 254 ≤ x ∧ x < 255) ∨ (Num.told x = 9 ∧ 255 ≤ x ∧ x < 256) := by
  unfold Num.told
  repeat' split
  all_goals omega

theorem xStep_err {most e : Int} {l : List Int} (he : e ≠ 0) : xStep most l e = (0, l, e) := by unfold xStep; rw [if_pos he]
theorem xStep_bad {most er : Int} {l : List Int} {n : Int} {k : Nat} (hn : Num.num most l = (n, er, k)) (he : er ≠ 0) : xStep most l 0 = (0, l, er) := by
  unfold xStep; rw [if_neg (by omega), hn, if_pos he]
theorem xStep_ok {most : Int} {l : List Int} {n : Int} {k : Nat} (hn : Num.num most l = (n, 0, k)) : xStep most l 0 = (n, l.drop k, 0) := by
  unfold xStep; rw [if_neg (by omega), hn, if_neg (by simp)]

theorem numX_any {w : World} {xb : Nat} {l : List Int} {e0 : Int} (h : Rx XB w xb l e0) (most : Int) :
    Calls Try.prog 69 #[.pointer (some ⟨xb, 0, none⟩), .int .i64 most] w fun e w' => XEnd XB w xb (xStep most l e0) e w' := by
  by_cases he : e0 ≠ 0
  · rw [xStep_err he]
    refine (numX_err most e0 h.err he).mono ?_
    rintro e w' ⟨rfl, rfl⟩
    exact ⟨rfl, h, Kp.refl _ _⟩
  · have he' : e0 = 0 := by simpa using he
    subst he'
    obtain ⟨v, hv1, hbs⟩ := h.left
    have hbs' := hbs
    obtain ⟨h1, h2, h3⟩ := hbs
    have bad : ∀ (er : Int) (nq : Nat), Num.num most l = (0, er, 0) → er ≠ 0 → XEnd XB w xb (xStep most l 0) (.returned (.int .i64 0)) ((w.drewN nq).setCell ⟨xb, 1, none⟩ (.int .i64 er)) := by
      intro er nq hn hne
      rw [xStep_bad hn hne]
      exact ⟨rfl, (h.drewN nq).setE er, ((Kp.refl _ _).drewN nq).trans (kp_one _ _ _ _)⟩
    by_cases h0 : l.length = 0
    · obtain ⟨a, cap, rfl⟩ := hbs'.len
      rw [h0] at hv1
      refine (numX_none most hv1 h.err h.free1).mono ?_
      rintro e w' ⟨rfl, rfl⟩
      exact bad 3 0 (by unfold Num.num; rw [if_pos h0]) (by decide)
    · rcases h3 with ⟨_, hnil⟩ | ⟨b, off, cap, rfl, hc, hA, hlt, hcell⟩
      · rw [hnil] at h0; exact absurd rfl h0
      · have hx := h1.get 0
        have hcx := hcell 0 (by omega)
        rw [Nat.add_zero] at hcx
        have key : ∀ k, Num.told (l.getD 0 0) = k → k ≤ 8 → k ≤ l.length → ∀ e w', NumXPost w xb b off cap l k most e w' → XEnd XB w xb (xStep most l 0) e w' := by
          intro k hk h8 hkl e w' hp
          obtain ⟨nq, hp⟩ := hp
          have hnum : Num.num most l = if Num.sz (Num.V l k (k - 1)) ≠ k ∨ most < Num.V l k (k - 1) then (0, 4, 0) else (Num.V l k (k - 1), 0, k) := by
            unfold Num.num; rw [if_neg h0, hk, if_neg (by omega), if_neg (by omega)]
          rcases hp with ⟨hbad, rfl, rfl⟩ | ⟨⟨g1, g2⟩, rfl, a, ha, ha', rfl⟩
          · rw [if_pos hbad] at hnum
            exact bad 4 nq hnum (by decide)
          · rw [if_neg (by rintro (q | q); exact q g1; omega)] at hnum
            rw [xStep_ok hnum]
            refine ⟨rfl, (h.drewN nq).setB ?_, ((Kp.refl _ _).drewN nq).trans (kp_one _ _ _ _)⟩
            exact Bs.rest (A := fun b => XB ≤ b ∧ b < xb) (w := w.drewN nq) (b := b) (off := off) (k := k) h1 h2 hc hA hlt hcell (by omega) ha ha'
        have short : ∀ k, Num.told (l.getD 0 0) = k → k ≤ 8 → l.length < k → ∀ e w', (e = Ending.returned (.int .i64 0) ∧ ∃ nq, w' = (w.drewN nq).setCell ⟨xb, 1, none⟩ (.int .i64 3)) → XEnd XB w xb (xStep most l 0) e w' := by
          rintro k hk h8 hs e w' ⟨rfl, nq, rfl⟩
          exact bad 3 nq (by unfold Num.num; rw [if_neg h0, hk, if_neg (by omega), if_pos hs]) (by decide)
        rcases told_rng (l.getD 0 0) hx.1 hx.2 with ht | ht | ht | ht | ht | ht | ht | ht | ht
        · exact (numX1 most hc hv1 h.err h.free0 h.free1 h1 h2 hcell ht.2 (by omega)).mono (key 1 ht.1 (by omega) (by omega))
        · by_cases hs : l.length < 2
          · exact (numX_short2 most _ hv1 h.err h.free1 (by omega) hcx ht.2.1 ht.2.2 hs).mono (short 2 ht.1 (by omega) hs)
          · exact (numX2 most hc hv1 h.err h.free0 h.free1 h1 h2 hcell ht.2 (by omega)).mono (key 2 ht.1 (by omega) (by omega))
        · by_cases hs : l.length < 3
          · exact (numX_short3 most _ hv1 h.err h.free1 (by omega) hcx ht.2.1 ht.2.2 hs).mono (short 3 ht.1 (by omega) hs)
          · exact (numX3 most hc hv1 h.err h.free0 h.free1 h1 h2 hcell ht.2 (by omega)).mono (key 3 ht.1 (by omega) (by omega))
        · by_cases hs : l.length < 4
          · exact (numX_short4 most _ hv1 h.err h.free1 (by omega) hcx ht.2.1 ht.2.2 hs).mono (short 4 ht.1 (by omega) hs)
          · exact (numX4 most hc hv1 h.err h.free0 h.free1 h1 h2 hcell ht.2 (by omega)).mono (key 4 ht.1 (by omega) (by omega))
        · by_cases hs : l.length < 5
          · exact (numX_short5 most _ hv1 h.err h.free1 (by omega) hcx ht.2.1 ht.2.2 hs).mono (short 5 ht.1 (by omega) hs)
          · exact (numX5 most hc hv1 h.err h.free0 h.free1 h1 h2 hcell ht.2 (by omega)).mono (key 5 ht.1 (by omega) (by omega))
        · by_cases hs : l.length < 6
          · exact (numX_short6 most _ hv1 h.err h.free1 (by omega) hcx ht.2.1 ht.2.2 hs).mono (short 6 ht.1 (by omega) hs)
          · exact (numX6 most hc hv1 h.err h.free0 h.free1 h1 h2 hcell ht.2 (by omega)).mono (key 6 ht.1 (by omega) (by omega))
        · by_cases hs : l.length < 7
          · exact (numX_short7 most _ hv1 h.err h.free1 (by omega) hcx ht.2.1 ht.2.2 hs).mono (short 7 ht.1 (by omega) hs)
          · exact (numX7 most hc hv1 h.err h.free0 h.free1 h1 h2 hcell ht.2 (by omega)).mono (key 7 ht.1 (by omega) (by omega))
        · by_cases hs : l.length < 8
          · exact (numX_short8 most _ hv1 h.err h.free1 (by omega) hcx ht.2.1 ht.2.2 hs).mono (short 8 ht.1 (by omega) hs)
          · exact (numX8 most hc hv1 h.err h.free0 h.free1 h1 h2 hcell ht.2 (by omega)).mono (key 8 ht.1 (by omega) (by omega))
        · refine (numX_nine most _ hv1 h.err h.free1 (by omega) hcx ht.2.1 ht.2.2).mono ?_
          rintro e w' ⟨rfl, nq, rfl⟩
          exact bad 4 nq (by unfold Num.num; rw [if_neg h0, ht.1, if_pos rfl]) (by decide)

theorem numX_is {w : World} {xb : Nat} {l l' : List Int} {e0 e1 n : Int} (h : Rx XB w xb l e0) (most : Int) (hs : xStep most l e0 = (n, l', e1)) :
    Calls Try.prog 69 #[.pointer (some ⟨xb, 0, none⟩), .int .i64 most] w fun e w' => e = .returned (.int .i64 n) ∧ Rx XB w' xb l' e1 ∧ Kp (fun b => b = xb) w w' := by
  refine (numX_any h most).mono ?_
  rw [hs]
  exact fun e w' h => h

set_option maxHeartbeats 400000 in
theorem UX_is {w : World} {xb : Nat} {l l' : List Int} {e0 e1 n : Int} (h : Rx XB w xb l e0) (hs : xStep 9007199254740991 l e0 = (n, l', e1)) :
    Calls Try.prog 44 #[.pointer (some ⟨xb, 0, none⟩)] w fun e w' => e = .returned (.int .i64 n) ∧ Rx XB w' xb l' e1 ∧ Kp (fun b => b = xb) w w' := by
  have H := hd h
  have HS := hd hs
  clear h hs
  go_enter Try.func44, Try.ntmps44
  go_wp2_with (go_at_call 69; refine (numX_is H.out _ HS.out).mono ?_; rintro e w1 ⟨rfl, hr, hk⟩; have HR := hd hr; have HKP := hd hk; clear hr hk)
  go_ret
  exact ⟨rfl, HR.out, HKP.out⟩

set_option maxHeartbeats 400000 in
theorem SX_odd {w : World} {xb : Nat} {l l' : List Int} {e0 e1 n : Int} (h : Rx XB w xb l e0) (hs : xStep 18014398509481982 l e0 = (n, l', e1)) (h0 : 0 ≤ n) (h1 : n ≤ 18014398509481982) (hp : n % 2 = 1) :
    Calls Try.prog 96 #[.pointer (some ⟨xb, 0, none⟩)] w fun e w' => e = .returned (.int .i64 (-((n + 1) / 2))) ∧ Rx XB w' xb l' e1 ∧ Kp (fun b => b = xb) w w' := by
  have H := hd h
  have HS := hd hs
  have HD : Hid (wrap64 (-(n + 1).tdiv 2) = -((n + 1) / 2)) := by
    show _ = _
    rw [Int.tdiv_eq_ediv_of_nonneg (by omega)]; unfold wrap64; omega
  clear h hs
  go_enter Try.func96, Try.ntmps96
  go_wp2_with (go_at_call 69; refine (numX_is H.out _ HS.out).mono ?_; rintro e w1 ⟨rfl, hr, hk⟩; have HR := hd hr; have HKP := hd hk; clear hr hk)
  go_ret
  exact ⟨congrArg (fun x => Ending.returned (Value.int .i64 x)) HD.out, HR.out, HKP.out⟩

set_option maxHeartbeats 400000 in
theorem SX_even {w : World} {xb : Nat} {l l' : List Int} {e0 e1 n : Int} (h : Rx XB w xb l e0) (hs : xStep 18014398509481982 l e0 = (n, l', e1)) (h0 : 0 ≤ n) (h1 : n ≤ 18014398509481982) (hp : n % 2 = 0) :
    Calls Try.prog 96 #[.pointer (some ⟨xb, 0, none⟩)] w fun e w' => e = .returned (.int .i64 (n / 2)) ∧ Rx XB w' xb l' e1 ∧ Kp (fun b => b = xb) w w' := by
  have H := hd h
  have HS := hd hs
  clear h hs
  go_enter Try.func96, Try.ntmps96
  go_wp2_with (go_at_call 69; refine (numX_is H.out _ HS.out).mono ?_; rintro e w1 ⟨rfl, hr, hk⟩; have HR := hd hr; have HKP := hd hk; clear hr hk)
  go_ret
  exact ⟨rfl, HR.out, HKP.out⟩

theorem SX_is {w : World} {xb : Nat} {l l' : List Int} {e0 e1 n : Int} (h : Rx XB w xb l e0) (hs : xStep 18014398509481982 l e0 = (n, l', e1)) (h0 : 0 ≤ n) (h1 : n ≤ 18014398509481982) :
    Calls Try.prog 96 #[.pointer (some ⟨xb, 0, none⟩)] w fun e w' => e = .returned (.int .i64 (unfoldI n)) ∧ Rx XB w' xb l' e1 ∧ Kp (fun b => b = xb) w w' := by
  unfold unfoldI
  by_cases hp : n % 2 = 1
  · rw [if_pos hp]; exact SX_odd h hs h0 h1 hp
  · rw [if_neg hp]; exact SX_even h hs h0 h1 (by omega)
end

section
variable {XB : Nat}

/-- What taking n bytes off tells of the document's reader: the bytes, what it has, its error. -/
def xRaw (n : Int) (l : List Int) (e : Int) : List Int × List Int × Int :=
  if e ≠ 0 then ([], l, e) else if n < 0 then ([], l, 2) else if (l.length : Int) < n then ([], l, 3) else (l.take n.toNat, l.drop n.toNat, 0)

/-- What taking a text off tells of it. -/
def xText (most : Int) (l : List Int) (e : Int) : List Int × List Int × Int :=
  if (xStep 9007199254740991 l e).2.2 ≠ 0 then ([], (xStep 9007199254740991 l e).2.1, (xStep 9007199254740991 l e).2.2)
  else if most < (xStep 9007199254740991 l e).1 then ([], (xStep 9007199254740991 l e).2.1, 5)
  else xRaw (xStep 9007199254740991 l e).1 (xStep 9007199254740991 l e).2.1 0

def XTake (XB : Nat) (w : World) (xb : Nat) (r : List Int × List Int × Int) (e : Ending) (w' : World) : Prop :=
  ∃ a cap, e = .returned (.slice a r.1.length cap) ∧ Bs (fun b => w.heap.size ≤ b) w' (.slice a r.1.length cap) r.1 ∧ Rx XB w' xb r.2.1 r.2.2 ∧ Kp (fun b => b = xb) w w'

theorem XTake.none {w w' : World} {xb : Nat} {l : List Int} {e : Int} (h : Rx XB w' xb l e) (k : Kp (fun b => b = xb) w w') : XTake XB w xb ([], l, e) (.returned (.slice none 0 0)) w' :=
  ⟨_, 0, rfl, Bs.ofNil _ _, h, k⟩

set_option maxHeartbeats 400000 in
theorem rawX_err {w : World} {xb : Nat} {l : List Int} {e0 : Int} (h : Rx XB w xb l e0) (he : e0 ≠ 0) (n : Int) (hn : 0 ≤ n) :
    Calls Try.prog 70 #[.pointer (some ⟨xb, 0, none⟩), .int .i64 n] w fun e w' => e = .returned (.slice none 0 0) ∧ w' = w := by
  have h1 := h.err
  have q1 : (e0 == 0) = false := by rw [beq_eq_false_iff_ne]; exact he
  have q2 : (e0 != 0) = true := by rw [bne_iff_ne]; exact he
  clear h he
  go_enter Try.func70, Try.ntmps70
  go_wp2
  go_ret
  exact ⟨rfl, rfl⟩

set_option maxHeartbeats 400000 in
theorem rawX_neg {w : World} {xb : Nat} {l : List Int} {e0 : Int} (h : Rx XB w xb l e0) (he : e0 ≠ 0) (n : Int) (hn : n < 0) :
    Calls Try.prog 70 #[.pointer (some ⟨xb, 0, none⟩), .int .i64 n] w fun e w' => e = .returned (.slice none 0 0) ∧ w' = w := by
  have h1 := h.err
  have H := hd h
  have HE := hd he
  have q1 : (e0 == 0) = false := by rw [beq_eq_false_iff_ne]; exact he
  have q2 : (e0 != 0) = true := by rw [bne_iff_ne]; exact he
  clear h he
  go_enter Try.func70, Try.ntmps70
  go_wp2_with (go_at_call 71; refine (FailX_old H.out HE.out 2).mono ?_; rintro e w1 ⟨rfl, rfl⟩)
  go_ret
  exact ⟨rfl, rfl⟩

set_option maxHeartbeats 400000 in
theorem rawX_neg0 {w : World} {xb : Nat} {l : List Int} (h : Rx XB w xb l 0) (n : Int) (hn : n < 0) :
    Calls Try.prog 70 #[.pointer (some ⟨xb, 0, none⟩), .int .i64 n] w fun e w' => e = .returned (.slice none 0 0) ∧ w' = w.setCell ⟨xb, 1, none⟩ (.int .i64 2) := by
  have H := hd h
  have h1 : (w.setCell ⟨xb, 1, none⟩ (.int .i64 2)).cell? ⟨xb, 1, none⟩ = some (.int .i64 2) := (h.setE 2).err
  clear h
  go_enter Try.func70, Try.ntmps70
  go_wp2_with (go_at_call 71; refine (FailX_new H.out 2).mono ?_; rintro e w1 ⟨rfl, rfl⟩)
  go_ret
  exact ⟨rfl, rfl⟩

set_option maxHeartbeats 400000 in
theorem rawX_much {w : World} {xb k : Nat} {l : List Int} (h : Rx XB w xb l 0) (hk : l.length = k) (n : Int) (hn : 0 ≤ n) (hs : (k : Int) < n) :
    Calls Try.prog 70 #[.pointer (some ⟨xb, 0, none⟩), .int .i64 n] w fun e w' => e = .returned (.slice none 0 0) ∧ w' = w.setCell ⟨xb, 1, none⟩ (.int .i64 3) := by
  obtain ⟨v, h2, h3⟩ := h.left
  obtain ⟨a, cap, rfl⟩ := h3.len
  rw [hk] at h2
  have h1 := h.err
  have h4 := h.free1
  clear h h3 hk
  go_enter Try.func70, Try.ntmps70
  go_wp2
  go_ret
  exact ⟨rfl, rfl⟩

def XSome (w : World) (xb b off cap n k : Nat) (l : List Int) (e : Ending) (w' : World) : Prop :=
  ∃ a c w1 a', e = .returned (.slice a n c) ∧ w' = w1.setCell ⟨xb, 0, none⟩ (.slice a' (k - n) (cap - n)) ∧
      (n < k → a' = some ⟨b, off + n, none⟩) ∧ (a' = some ⟨b, off, none⟩ ∨ a' = some ⟨b, off + n, none⟩) ∧
      Bs (fun b => w.heap.size ≤ b) w1 (.slice a n c) l ∧ Below w.heap.size w w1

set_option maxHeartbeats 1000000 in
theorem rawX_some {w : World} {xb b off cap n k : Nat} (hc : k ≤ cap) (hn : n ≤ k) (hxb : xb < w.heap.size)
    (hc0 : w.cell? ⟨xb, 0, none⟩ = some (.slice (some ⟨b, off, none⟩) k cap)) (hc1 : w.cell? ⟨xb, 1, none⟩ = some (.int .i64 0)) (hf0 : w.frozen? ⟨xb, 0, none⟩ = false) {l : List Int}
    (h : Bs (fun _ => True) w (.slice (some ⟨b, off, none⟩) n cap) l) (hlen : l.length = n) :
    Calls Try.prog 70 #[.pointer (some ⟨xb, 0, none⟩), .int .i64 n] w fun e w' => XSome w xb b off cap n k l e w' := by
  have H := hd h
  have HL := hd hlen
  clear h hlen
  have hn' : (n : Int) ≤ (k : Int) := by omega
  have hc' : (k : Int) ≤ (cap : Int) := by omega
  go_enter Try.func70, Try.ntmps70
  go_wp2_with fail
  refine (copy_bs H.out).mono ?_
  rintro e w1 ⟨a, c, rfl, hb1, hf, hk⟩
  rw [HL.out] at hb1 ⊢
  have HB := hd hb1
  have HW := hd hk
  have hd1 : w1.cell? ⟨xb, 0, none⟩ = some (.slice (some ⟨b, off, none⟩) k cap) := (hk.cell (p := ⟨xb, 0, none⟩) hxb).trans hc0
  have hd2 : w1.frozen? ⟨xb, 0, none⟩ = false := (hk.frozen (p := ⟨xb, 0, none⟩) hxb).trans hf0
  clear hb1 hf hk
  go_wp2
  all_goals go_ret
  · exact ⟨a, c, w1, _, rfl, by rw [Nat.sub_self], fun h => by omega, Or.inl rfl, HB.out, HW.out⟩
  · exact ⟨a, c, w1, _, rfl, rfl, fun h => rfl, Or.inr rfl, HB.out, HW.out⟩

set_option maxHeartbeats 1000000 in
theorem rawX_nil {w : World} {xb : Nat} (hc0 : w.cell? ⟨xb, 0, none⟩ = some (.slice none 0 0)) (hc1 : w.cell? ⟨xb, 1, none⟩ = some (.int .i64 0)) (hf0 : w.frozen? ⟨xb, 0, none⟩ = false) :
    Calls Try.prog 70 #[.pointer (some ⟨xb, 0, none⟩), .int .i64 0] w fun e w' => e = .returned (.slice none 0 0) ∧ w' = w.setCell ⟨xb, 0, none⟩ (.slice none 0 0) := by
  have HR := hd (append_nil_none (P := Try.prog) (w := w) (t := 26) (tx := 26) (ty := 26) Try.underlying26 i5 (x := .slice none 0 0) (by rw [s5]; exact Src.ofNil w Try.underlying26 0))
  go_enter Try.func70, Try.ntmps70
  go_wp2_with (go_at_call 20; refine (copy_run _ _ _ _ HR.out).mono ?_; rintro e w1 ⟨rfl, rfl⟩)
  go_ret
  exact ⟨rfl, rfl⟩

theorem rawX_any {w : World} {xb : Nat} {l : List Int} {e0 : Int} (h : Rx XB w xb l e0) (n : Int) :
    Calls Try.prog 70 #[.pointer (some ⟨xb, 0, none⟩), .int .i64 n] w fun e w' => XTake XB w xb (xRaw n l e0) e w' := by
  unfold xRaw
  by_cases he : e0 ≠ 0
  · rw [if_pos he]
    by_cases hn : n < 0
    · refine (rawX_neg h he n hn).mono ?_
      rintro e w' ⟨rfl, rfl⟩
      exact XTake.none h (Kp.refl _ _)
    · refine (rawX_err h he n (by omega)).mono ?_
      rintro e w' ⟨rfl, rfl⟩
      exact XTake.none h (Kp.refl _ _)
  · rw [if_neg he]
    have he' : e0 = 0 := by simpa using he
    subst he'
    by_cases hn : n < 0
    · rw [if_pos hn]
      refine (rawX_neg0 h n hn).mono ?_
      rintro e w' ⟨rfl, rfl⟩
      exact XTake.none (h.setE 2) (kp_one _ _ _ _)
    · rw [if_neg hn]
      by_cases hs : (l.length : Int) < n
      · rw [if_pos hs]
        refine (rawX_much h rfl n (by omega) hs).mono ?_
        rintro e w' ⟨rfl, rfl⟩
        exact XTake.none (h.setE 3) (kp_one _ _ _ _)
      · rw [if_neg hs]
        obtain ⟨m, rfl⟩ := Int.eq_ofNat_of_zero_le (by omega : 0 ≤ n)
        have hm : m ≤ l.length := by omega
        have hlen : (l.take m).length = m := by rw [List.length_take]; omega
        obtain ⟨v, hv, hbs⟩ := h.left
        obtain ⟨h1, h2, h3⟩ := hbs
        rw [Int.toNat_natCast]
        rcases h3 with ⟨rfl, rfl⟩ | ⟨b, off, cap, rfl, hc, hA, hlt, hcell⟩
        · have hm0 : m = 0 := by simpa using hm
          subst hm0
          refine (rawX_nil hv h.err h.free0).mono ?_
          rintro e w' ⟨rfl, rfl⟩
          exact ⟨none, 0, rfl, Bs.ofNil _ _, h.setB (Bs.ofNil _ _), kp_one _ _ _ _⟩
        · refine (rawX_some hc hm h.lt hv h.err h.free0 (Bs.front h1 h2 hc trivial hlt hcell hm) hlen).mono ?_
          rintro e w' ⟨a, c, w1, a', rfl, rfl, ha, ha', hb1, hk⟩
          have hkp := kp_one w1 xb 0 (.slice a' (l.length - m) (cap - m))
          refine ⟨a, c, by rw [hlen], ?_, ?_, ?_⟩
          · rw [hlen]; exact hb1.keep hkp (fun b _ hb e => by have := h.lt; have e' : b = xb := e; omega)
          · refine (h.keepB hk).setB ?_
            exact Bs.rest (A := fun b => XB ≤ b ∧ b < xb) (w := w1) (b := b) (off := off) (k := m) h1 h2 hc hA (Nat.lt_of_lt_of_le hlt hk.size) (fun i hi => (hk.cell (p := ⟨b, off + i, none⟩) hlt).trans (hcell i hi)) hm ha ha'
          · exact (kpB hk (fun b => b = xb)).trans hkp

def XText (XB : Nat) (w : World) (xb : Nat) (r : List Int × List Int × Int) (e : Ending) (w' : World) : Prop :=
  e = .returned (.string (strOfNums r.1)) ∧ Rx XB w' xb r.2.1 r.2.2 ∧ Kp (fun b => b = xb) w w'

set_option maxHeartbeats 400000 in
theorem textX_err {w : World} {xb : Nat} {l l1 : List Int} {e0 n e1 : Int} (h : Rx XB w xb l e0) (most : Int) (hs : xStep 9007199254740991 l e0 = (n, l1, e1)) (he : e1 ≠ 0) :
    Calls Try.prog 45 #[.pointer (some ⟨xb, 0, none⟩), .int .i64 most] w fun e w' => XText XB w xb ([], l1, e1) e w' := by
  have H := hd h
  have HS := hd hs
  have q1 : (e1 == 0) = false := by rw [beq_eq_false_iff_ne]; exact he
  have q2 : (e1 != 0) = true := by rw [bne_iff_ne]; exact he
  clear h hs he
  go_enter Try.func45, Try.ntmps45
  go_wp2_with fail
  refine (UX_is H.out HS.out).mono ?_
  rintro e w1 ⟨rfl, hr, hk⟩
  have hce := hr.err
  have HR := hd hr
  have HKP := hd hk
  clear hr hk
  go_wp2
  go_ret
  exact ⟨rfl, HR.out, HKP.out⟩

set_option maxHeartbeats 400000 in
theorem textX_much {w : World} {xb : Nat} {l l1 : List Int} {e0 n : Int} (h : Rx XB w xb l e0) (most : Int) (hs : xStep 9007199254740991 l e0 = (n, l1, 0)) (hm : most < n) :
    Calls Try.prog 45 #[.pointer (some ⟨xb, 0, none⟩), .int .i64 most] w fun e w' => XText XB w xb ([], l1, 5) e w' := by
  have H := hd h
  have HS := hd hs
  clear h hs
  go_enter Try.func45, Try.ntmps45
  go_wp2_with fail
  refine (UX_is H.out HS.out).mono ?_
  rintro e w1 ⟨rfl, hr, hk⟩
  have hce := hr.err
  have hcf := hr.free1
  have hc5 : (w1.setCell ⟨xb, 1, none⟩ (.int .i64 5)).cell? ⟨xb, 1, none⟩ = some (.int .i64 5) := (hr.setE 5).err
  have HR := hd hr
  have HKP := hd hk
  clear hr hk
  go_wp2
  go_ret
  exact ⟨rfl, HR.out.setE 5, HKP.out.trans (kp_one _ _ _ _)⟩

set_option maxHeartbeats 400000 in
theorem textX_go {w : World} {xb : Nat} {l l1 : List Int} {e0 n : Int} (h : Rx XB w xb l e0) (most : Int) (hs : xStep 9007199254740991 l e0 = (n, l1, 0)) (hm : n ≤ most) :
    Calls Try.prog 45 #[.pointer (some ⟨xb, 0, none⟩), .int .i64 most] w fun e w' => XText XB w xb (xRaw n l1 0) e w' := by
  have H := hd h
  have HS := hd hs
  clear h hs
  go_enter Try.func45, Try.ntmps45
  go_wp2_with fail
  refine (UX_is H.out HS.out).mono ?_
  rintro e w1 ⟨rfl, hr, hk⟩
  have hce := hr.err
  have HR := hd hr
  have HKP := hd hk
  clear hr hk
  go_wp2_with fail
  refine (rawX_any HR.out n).mono ?_
  rintro e w2 ⟨a, cap, rfl, hb, hr, hk⟩
  have hcv := conv_bs hb
  have HR2 := hd hr
  have HK2 := hd hk
  clear hb hr hk
  go_wp2
  go_ret
  exact ⟨rfl, HR2.out, HKP.out.trans HK2.out⟩

theorem textX_any {w : World} {xb : Nat} {l : List Int} {e0 : Int} (h : Rx XB w xb l e0) (most : Int) :
    Calls Try.prog 45 #[.pointer (some ⟨xb, 0, none⟩), .int .i64 most] w fun e w' => XText XB w xb (xText most l e0) e w' := by
  obtain ⟨n, l1, e1, hs⟩ : ∃ n l1 e1, xStep 9007199254740991 l e0 = (n, l1, e1) := ⟨_, _, _, rfl⟩
  unfold xText
  rw [hs]
  by_cases he : e1 ≠ 0
  · rw [if_pos he]; exact textX_err h most hs he
  · have he' : e1 = 0 := by simpa using he
    subst he'
    rw [if_neg he]
    by_cases hm : most < n
    · rw [if_pos hm]; exact textX_much h most hs hm
    · rw [if_neg hm]; exact textX_go h most hs (by omega)

/-! What both readers tell is the same. -/

theorem u_agree (most : Int) (l lx : List Int) (e : Int) (h : e = 0 → lx = l) : (uStep most l e).1 = (xStep most lx e).1 ∧ (uStep most l e).2.2 = (xStep most lx e).2.2 ∧ ((uStep most l e).2.2 = 0 → (xStep most lx e).2.1 = (uStep most l e).2.1) := by
  unfold uStep xStep
  by_cases he : e ≠ 0
  · rw [if_pos he, if_pos he]; exact ⟨rfl, rfl, fun h => absurd h he⟩
  · have he' : e = 0 := by simpa using he
    rw [if_neg he, if_neg he, h he']
    by_cases h2 : (Num.num most l).2.1 ≠ 0
    · rw [if_pos h2, if_pos h2]; exact ⟨rfl, rfl, fun h => absurd h h2⟩
    · rw [if_neg h2, if_neg h2]; exact ⟨rfl, rfl, fun _ => rfl⟩

theorem raw_agree (n : Int) (l lx : List Int) (e : Int) (h : e = 0 → lx = l) : (bStep (rawR n l) l e).1 = (xRaw n lx e).1 ∧ (bStep (rawR n l) l e).2.2 = (xRaw n lx e).2.2 ∧ ((bStep (rawR n l) l e).2.2 = 0 → (xRaw n lx e).2.1 = (bStep (rawR n l) l e).2.1) := by
  unfold bStep xRaw rawR
  by_cases he : e ≠ 0
  · rw [if_pos he, if_pos he]; exact ⟨rfl, rfl, fun h => absurd h he⟩
  · have he' : e = 0 := by simpa using he
    rw [if_neg he, if_neg he, h he']
    by_cases h2 : n < 0
    · rw [if_pos h2, if_pos h2]; simp
    · rw [if_neg h2, if_neg h2]
      by_cases h3 : (l.length : Int) < n
      · rw [if_pos h3, if_pos h3]; simp
      · rw [if_neg h3, if_neg h3]; simp

theorem text_agree (most : Int) (l lx : List Int) (e : Int) (h : e = 0 → lx = l) : (bStep (textR most l) l e).1 = (xText most lx e).1 ∧ (bStep (textR most l) l e).2.2 = (xText most lx e).2.2 ∧ ((bStep (textR most l) l e).2.2 = 0 → (xText most lx e).2.1 = (bStep (textR most l) l e).2.1) := by
  by_cases he : e ≠ 0
  · unfold bStep xText
    rw [xStep_err he, if_pos he, if_pos he]; exact ⟨rfl, rfl, fun h => absurd h he⟩
  · have he' : e = 0 := by simpa using he
    subst he'
    rw [h rfl]
    obtain ⟨n, er, k, hn⟩ : ∃ n er k, Num.num 9007199254740991 l = (n, er, k) := ⟨_, _, _, rfl⟩
    unfold xText textR
    rw [hn]
    by_cases h2 : er ≠ 0
    · rw [xStep_bad hn h2, if_pos h2, if_pos h2]
      unfold bStep
      rw [if_neg he, if_pos h2]
      exact ⟨rfl, rfl, fun h => absurd h h2⟩
    · have h2' : er = 0 := by simpa using h2
      subst h2'
      rw [xStep_ok hn, if_neg h2, if_neg h2]
      by_cases h3 : most < n
      · rw [if_pos h3, if_pos h3]; unfold bStep; simp
      · rw [if_neg h3, if_neg h3]
        have q := raw_agree n (l.drop k) (l.drop k) 0 (fun _ => rfl)
        have e1 : bStep (rawR n (l.drop k)) l 0 = bStep (rawR n (l.drop k)) (l.drop k) 0 := by unfold bStep; rw [if_neg he, if_neg he]
        rw [e1]
        exact q
end

end Go.Proofs.Yteifaipbckhoiaa
