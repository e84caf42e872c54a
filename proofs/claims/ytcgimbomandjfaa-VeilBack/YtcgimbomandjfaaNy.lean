/- The document's reader: number, of whatever bytes are left; U and S. -/
import Derived.Test.YtcgimbomandjfaaNx
namespace Go.Proofs.Ytcgimbomandjfaa
open Go.RowKit
set_option linter.unusedVariables false

set_option maxHeartbeats 400000 in
theorem numX_err {w : World} {xb : Nat} (most e0 : Int) (hc1 : w.cell? ⟨xb, 1, none⟩ = some (.int .i64 e0)) (he : e0 ≠ 0) :
    Calls Try.prog 55 #[.pointer (some ⟨xb, 0, none⟩), .int .i64 most] w fun e w' => e = .returned (.int .i64 0) ∧ w' = w := by
  have hn : (e0 != 0) = true := by rw [bne_iff_ne]; exact he
  clear he
  go_enter Try.func55, Try.ntmps55
  go_wp2
  go_ret
  exact ⟨rfl, rfl⟩

set_option maxHeartbeats 400000 in
theorem numX_none {w : World} {xb cap : Nat} {a : Option Addr} (most : Int) (hc0 : w.cell? ⟨xb, 0, none⟩ = some (.slice a 0 cap)) (hc1 : w.cell? ⟨xb, 1, none⟩ = some (.int .i64 0)) (hf1 : w.frozen? ⟨xb, 1, none⟩ = false) :
    Calls Try.prog 55 #[.pointer (some ⟨xb, 0, none⟩), .int .i64 most] w fun e w' => e = .returned (.int .i64 0) ∧ w' = w.setCell ⟨xb, 1, none⟩ (.int .i64 3) := by
  go_enter Try.func55, Try.ntmps55
  go_wp2
  go_ret
  exact ⟨rfl, rfl⟩

set_option maxRecDepth 100000 in
set_option maxHeartbeats 4000000 in
theorem numX_short2 {w : World} {xb b off cap n : Nat} (most x : Int) (hc0 : w.cell? ⟨xb, 0, none⟩ = some (.slice (some ⟨b, off, none⟩) n cap)) (hc1 : w.cell? ⟨xb, 1, none⟩ = some (.int .i64 0)) (hf1 : w.frozen? ⟨xb, 1, none⟩ = false)
    (hn : 0 < n) (hcx : w.cell? ⟨b, off, none⟩ = some (.int .u8 x)) (hr0 : 128 ≤ x) (hr1 : x < 192) (hs : n < 2) :
    Calls Try.prog 55 #[.pointer (some ⟨xb, 0, none⟩), .int .i64 most] w fun e w' => e = .returned (.int .i64 0) ∧ ∃ nq, w' = (w.drewN nq).setCell ⟨xb, 1, none⟩ (.int .i64 3) := by
  have hz : ((n : Int) == 0) = false := by rw [beq_eq_false_iff_ne]; omega
  have hpos : (0 : Int) < (n : Int) := by omega
  have hs' : (n : Int) < 2 := by omega
  have hx0 : 0 ≤ x := by omega
  have hx1 : x ≤ 255 := by omega
  have hq0 : (bits BinOp.and IntKind.u8 x 128 != 0) = true := tb2_0 x (by omega) (by omega)
  have hq1 : (bits BinOp.and IntKind.u8 x 64 != 0) = false := tb2_1 x (by omega) (by omega)
  go_enter Try.func55, Try.ntmps55
  go_wp2
  refine wp_loop_rounds 2 ?_
  rw [rounds_succ]
  go_wp2_with fail
  go_quiet (fail)
  go_wp2_with fail
  rw [rounds_succ]
  go_wp2_with fail
  go_quiet (fail)
  go_wp2_with fail
  go_ret
  exact ⟨rfl, _, rfl⟩

set_option maxRecDepth 100000 in
set_option maxHeartbeats 4000000 in
theorem numX_short3 {w : World} {xb b off cap n : Nat} (most x : Int) (hc0 : w.cell? ⟨xb, 0, none⟩ = some (.slice (some ⟨b, off, none⟩) n cap)) (hc1 : w.cell? ⟨xb, 1, none⟩ = some (.int .i64 0)) (hf1 : w.frozen? ⟨xb, 1, none⟩ = false)
    (hn : 0 < n) (hcx : w.cell? ⟨b, off, none⟩ = some (.int .u8 x)) (hr0 : 192 ≤ x) (hr1 : x < 224) (hs : n < 3) :
    Calls Try.prog 55 #[.pointer (some ⟨xb, 0, none⟩), .int .i64 most] w fun e w' => e = .returned (.int .i64 0) ∧ ∃ nq, w' = (w.drewN nq).setCell ⟨xb, 1, none⟩ (.int .i64 3) := by
  have hz : ((n : Int) == 0) = false := by rw [beq_eq_false_iff_ne]; omega
  have hpos : (0 : Int) < (n : Int) := by omega
  have hs' : (n : Int) < 3 := by omega
  have hx0 : 0 ≤ x := by omega
  have hx1 : x ≤ 255 := by omega
  have hq0 : (bits BinOp.and IntKind.u8 x 128 != 0) = true := tb3_0 x (by omega) (by omega)
  have hq1 : (bits BinOp.and IntKind.u8 x 64 != 0) = true := tb3_1 x (by omega) (by omega)
  have hq2 : (bits BinOp.and IntKind.u8 x 32 != 0) = false := tb3_2 x (by omega) (by omega)
  go_enter Try.func55, Try.ntmps55
  go_wp2
  refine wp_loop_rounds 3 ?_
  rw [rounds_succ]
  go_wp2_with fail
  go_quiet (fail)
  go_wp2_with fail
  rw [rounds_succ]
  go_wp2_with fail
  go_quiet (fail)
  go_wp2_with fail
  rw [rounds_succ]
  go_wp2_with fail
  go_quiet (fail)
  go_wp2_with fail
  go_ret
  exact ⟨rfl, _, rfl⟩

set_option maxRecDepth 100000 in
set_option maxHeartbeats 4000000 in
theorem numX_short4 {w : World} {xb b off cap n : Nat} (most x : Int) (hc0 : w.cell? ⟨xb, 0, none⟩ = some (.slice (some ⟨b, off, none⟩) n cap)) (hc1 : w.cell? ⟨xb, 1, none⟩ = some (.int .i64 0)) (hf1 : w.frozen? ⟨xb, 1, none⟩ = false)
    (hn : 0 < n) (hcx : w.cell? ⟨b, off, none⟩ = some (.int .u8 x)) (hr0 : 224 ≤ x) (hr1 : x < 240) (hs : n < 4) :
    Calls Try.prog 55 #[.pointer (some ⟨xb, 0, none⟩), .int .i64 most] w fun e w' => e = .returned (.int .i64 0) ∧ ∃ nq, w' = (w.drewN nq).setCell ⟨xb, 1, none⟩ (.int .i64 3) := by
  have hz : ((n : Int) == 0) = false := by rw [beq_eq_false_iff_ne]; omega
  have hpos : (0 : Int) < (n : Int) := by omega
  have hs' : (n : Int) < 4 := by omega
  have hx0 : 0 ≤ x := by omega
  have hx1 : x ≤ 255 := by omega
  have hq0 : (bits BinOp.and IntKind.u8 x 128 != 0) = true := tb4_0 x (by omega) (by omega)
  have hq1 : (bits BinOp.and IntKind.u8 x 64 != 0) = true := tb4_1 x (by omega) (by omega)
  have hq2 : (bits BinOp.and IntKind.u8 x 32 != 0) = true := tb4_2 x (by omega) (by omega)
  have hq3 : (bits BinOp.and IntKind.u8 x 16 != 0) = false := tb4_3 x (by omega) (by omega)
  go_enter Try.func55, Try.ntmps55
  go_wp2
  refine wp_loop_rounds 4 ?_
  rw [rounds_succ]
  go_wp2_with fail
  go_quiet (fail)
  go_wp2_with fail
  rw [rounds_succ]
  go_wp2_with fail
  go_quiet (fail)
  go_wp2_with fail
  rw [rounds_succ]
  go_wp2_with fail
  go_quiet (fail)
  go_wp2_with fail
  rw [rounds_succ]
  go_wp2_with fail
  go_quiet (fail)
  go_wp2_with fail
  go_ret
  exact ⟨rfl, _, rfl⟩

set_option maxRecDepth 100000 in
set_option maxHeartbeats 4000000 in
theorem numX_short5 {w : World} {xb b off cap n : Nat} (most x : Int) (hc0 : w.cell? ⟨xb, 0, none⟩ = some (.slice (some ⟨b, off, none⟩) n cap)) (hc1 : w.cell? ⟨xb, 1, none⟩ = some (.int .i64 0)) (hf1 : w.frozen? ⟨xb, 1, none⟩ = false)
    (hn : 0 < n) (hcx : w.cell? ⟨b, off, none⟩ = some (.int .u8 x)) (hr0 : 240 ≤ x) (hr1 : x < 248) (hs : n < 5) :
    Calls Try.prog 55 #[.pointer (some ⟨xb, 0, none⟩), .int .i64 most] w fun e w' => e = .returned (.int .i64 0) ∧ ∃ nq, w' = (w.drewN nq).setCell ⟨xb, 1, none⟩ (.int .i64 3) := by
  have hz : ((n : Int) == 0) = false := by rw [beq_eq_false_iff_ne]; omega
  have hpos : (0 : Int) < (n : Int) := by omega
  have hs' : (n : Int) < 5 := by omega
  have hx0 : 0 ≤ x := by omega
  have hx1 : x ≤ 255 := by omega
  have hq0 : (bits BinOp.and IntKind.u8 x 128 != 0) = true := tb5_0 x (by omega) (by omega)
  have hq1 : (bits BinOp.and IntKind.u8 x 64 != 0) = true := tb5_1 x (by omega) (by omega)
  have hq2 : (bits BinOp.and IntKind.u8 x 32 != 0) = true := tb5_2 x (by omega) (by omega)
  have hq3 : (bits BinOp.and IntKind.u8 x 16 != 0) = true := tb5_3 x (by omega) (by omega)
  have hq4 : (bits BinOp.and IntKind.u8 x 8 != 0) = false := tb5_4 x (by omega) (by omega)
  go_enter Try.func55, Try.ntmps55
  go_wp2
  refine wp_loop_rounds 5 ?_
  rw [rounds_succ]
  go_wp2_with fail
  go_quiet (fail)
  go_wp2_with fail
  rw [rounds_succ]
  go_wp2_with fail
  go_quiet (fail)
  go_wp2_with fail
  rw [rounds_succ]
  go_wp2_with fail
  go_quiet (fail)
  go_wp2_with fail
  rw [rounds_succ]
  go_wp2_with fail
  go_quiet (fail)
  go_wp2_with fail
  rw [rounds_succ]
  go_wp2_with fail
  go_quiet (fail)
  go_wp2_with fail
  go_ret
  exact ⟨rfl, _, rfl⟩

set_option maxRecDepth 100000 in
set_option maxHeartbeats 4000000 in
theorem numX_short6 {w : World} {xb b off cap n : Nat} (most x : Int) (hc0 : w.cell? ⟨xb, 0, none⟩ = some (.slice (some ⟨b, off, none⟩) n cap)) (hc1 : w.cell? ⟨xb, 1, none⟩ = some (.int .i64 0)) (hf1 : w.frozen? ⟨xb, 1, none⟩ = false)
    (hn : 0 < n) (hcx : w.cell? ⟨b, off, none⟩ = some (.int .u8 x)) (hr0 : 248 ≤ x) (hr1 : x < 252) (hs : n < 6) :
    Calls Try.prog 55 #[.pointer (some ⟨xb, 0, none⟩), .int .i64 most] w fun e w' => e = .returned (.int .i64 0) ∧ ∃ nq, w' = (w.drewN nq).setCell ⟨xb, 1, none⟩ (.int .i64 3) := by
  have hz : ((n : Int) == 0) = false := by rw [beq_eq_false_iff_ne]; omega
  have hpos : (0 : Int) < (n : Int) := by omega
  have hs' : (n : Int) < 6 := by omega
  have hx0 : 0 ≤ x := by omega
  have hx1 : x ≤ 255 := by omega
  have hq0 : (bits BinOp.and IntKind.u8 x 128 != 0) = true := tb6_0 x (by omega) (by omega)
  have hq1 : (bits BinOp.and IntKind.u8 x 64 != 0) = true := tb6_1 x (by omega) (by omega)
  have hq2 : (bits BinOp.and IntKind.u8 x 32 != 0) = true := tb6_2 x (by omega) (by omega)
  have hq3 : (bits BinOp.and IntKind.u8 x 16 != 0) = true := tb6_3 x (by omega) (by omega)
  have hq4 : (bits BinOp.and IntKind.u8 x 8 != 0) = true := tb6_4 x (by omega) (by omega)
  have hq5 : (bits BinOp.and IntKind.u8 x 4 != 0) = false := tb6_5 x (by omega) (by omega)
  go_enter Try.func55, Try.ntmps55
  go_wp2
  refine wp_loop_rounds 6 ?_
  rw [rounds_succ]
  go_wp2_with fail
  go_quiet (fail)
  go_wp2_with fail
  rw [rounds_succ]
  go_wp2_with fail
  go_quiet (fail)
  go_wp2_with fail
  rw [rounds_succ]
  go_wp2_with fail
  go_quiet (fail)
  go_wp2_with fail
  rw [rounds_succ]
  go_wp2_with fail
  go_quiet (fail)
  go_wp2_with fail
  rw [rounds_succ]
  go_wp2_with fail
  go_quiet (fail)
  go_wp2_with fail
  rw [rounds_succ]
  go_wp2_with fail
  go_quiet (fail)
  go_wp2_with fail
  go_ret
  exact ⟨rfl, _, rfl⟩

set_option maxRecDepth 100000 in
set_option maxHeartbeats 4000000 in
theorem numX_short7 {w : World} {xb b off cap n : Nat} (most x : Int) (hc0 : w.cell? ⟨xb, 0, none⟩ = some (.slice (some ⟨b, off, none⟩) n cap)) (hc1 : w.cell? ⟨xb, 1, none⟩ = some (.int .i64 0)) (hf1 : w.frozen? ⟨xb, 1, none⟩ = false)
    (hn : 0 < n) (hcx : w.cell? ⟨b, off, none⟩ = some (.int .u8 x)) (hr0 : 252 ≤ x) (hr1 : x < 254) (hs : n < 7) :
    Calls Try.prog 55 #[.pointer (some ⟨xb, 0, none⟩), .int .i64 most] w fun e w' => e = .returned (.int .i64 0) ∧ ∃ nq, w' = (w.drewN nq).setCell ⟨xb, 1, none⟩ (.int .i64 3) := by
  have hz : ((n : Int) == 0) = false := by rw [beq_eq_false_iff_ne]; omega
  have hpos : (0 : Int) < (n : Int) := by omega
  have hs' : (n : Int) < 7 := by omega
  have hx0 : 0 ≤ x := by omega
  have hx1 : x ≤ 255 := by omega
  have hq0 : (bits BinOp.and IntKind.u8 x 128 != 0) = true := tb7_0 x (by omega) (by omega)
  have hq1 : (bits BinOp.and IntKind.u8 x 64 != 0) = true := tb7_1 x (by omega) (by omega)
  have hq2 : (bits BinOp.and IntKind.u8 x 32 != 0) = true := tb7_2 x (by omega) (by omega)
  have hq3 : (bits BinOp.and IntKind.u8 x 16 != 0) = true := tb7_3 x (by omega) (by omega)
  have hq4 : (bits BinOp.and IntKind.u8 x 8 != 0) = true := tb7_4 x (by omega) (by omega)
  have hq5 : (bits BinOp.and IntKind.u8 x 4 != 0) = true := tb7_5 x (by omega) (by omega)
  have hq6 : (bits BinOp.and IntKind.u8 x 2 != 0) = false := tb7_6 x (by omega) (by omega)
  go_enter Try.func55, Try.ntmps55
  go_wp2
  refine wp_loop_rounds 7 ?_
  rw [rounds_succ]
  go_wp2_with fail
  go_quiet (fail)
  go_wp2_with fail
  rw [rounds_succ]
  go_wp2_with fail
  go_quiet (fail)
  go_wp2_with fail
  rw [rounds_succ]
  go_wp2_with fail
  go_quiet (fail)
  go_wp2_with fail
  rw [rounds_succ]
  go_wp2_with fail
  go_quiet (fail)
  go_wp2_with fail
  rw [rounds_succ]
  go_wp2_with fail
  go_quiet (fail)
  go_wp2_with fail
  rw [rounds_succ]
  go_wp2_with fail
  go_quiet (fail)
  go_wp2_with fail
  rw [rounds_succ]
  go_wp2_with fail
  go_quiet (fail)
  go_wp2_with fail
  go_ret
  exact ⟨rfl, _, rfl⟩

set_option maxRecDepth 100000 in
set_option maxHeartbeats 4000000 in
theorem numX_short8 {w : World} {xb b off cap n : Nat} (most x : Int) (hc0 : w.cell? ⟨xb, 0, none⟩ = some (.slice (some ⟨b, off, none⟩) n cap)) (hc1 : w.cell? ⟨xb, 1, none⟩ = some (.int .i64 0)) (hf1 : w.frozen? ⟨xb, 1, none⟩ = false)
    (hn : 0 < n) (hcx : w.cell? ⟨b, off, none⟩ = some (.int .u8 x)) (hr0 : 254 ≤ x) (hr1 : x < 255) (hs : n < 8) :
    Calls Try.prog 55 #[.pointer (some ⟨xb, 0, none⟩), .int .i64 most] w fun e w' => e = .returned (.int .i64 0) ∧ ∃ nq, w' = (w.drewN nq).setCell ⟨xb, 1, none⟩ (.int .i64 3) := by
  have hz : ((n : Int) == 0) = false := by rw [beq_eq_false_iff_ne]; omega
  have hpos : (0 : Int) < (n : Int) := by omega
  have hs' : (n : Int) < 8 := by omega
  have hx0 : 0 ≤ x := by omega
  have hx1 : x ≤ 255 := by omega
  have hq0 : (bits BinOp.and IntKind.u8 x 128 != 0) = true := tb8_0 x (by omega) (by omega)
  have hq1 : (bits BinOp.and IntKind.u8 x 64 != 0) = true := tb8_1 x (by omega) (by omega)
  have hq2 : (bits BinOp.and IntKind.u8 x 32 != 0) = true := tb8_2 x (by omega) (by omega)
  have hq3 : (bits BinOp.and IntKind.u8 x 16 != 0) = true := tb8_3 x (by omega) (by omega)
  have hq4 : (bits BinOp.and IntKind.u8 x 8 != 0) = true := tb8_4 x (by omega) (by omega)
  have hq5 : (bits BinOp.and IntKind.u8 x 4 != 0) = true := tb8_5 x (by omega) (by omega)
  have hq6 : (bits BinOp.and IntKind.u8 x 2 != 0) = true := tb8_6 x (by omega) (by omega)
  have hq7 : (bits BinOp.and IntKind.u8 x 1 != 0) = false := tb8_7 x (by omega) (by omega)
  go_enter Try.func55, Try.ntmps55
  go_wp2
  refine wp_loop_rounds 8 ?_
  rw [rounds_succ]
  go_wp2_with fail
  go_quiet (fail)
  go_wp2_with fail
  rw [rounds_succ]
  go_wp2_with fail
  go_quiet (fail)
  go_wp2_with fail
  rw [rounds_succ]
  go_wp2_with fail
  go_quiet (fail)
  go_wp2_with fail
  rw [rounds_succ]
  go_wp2_with fail
  go_quiet (fail)
  go_wp2_with fail
  rw [rounds_succ]
  go_wp2_with fail
  go_quiet (fail)
  go_wp2_with fail
  rw [rounds_succ]
  go_wp2_with fail
  go_quiet (fail)
  go_wp2_with fail
  rw [rounds_succ]
  go_wp2_with fail
  go_quiet (fail)
  go_wp2_with fail
  rw [rounds_succ]
  go_wp2_with fail
  go_quiet (fail)
  go_wp2_with fail
  go_ret
  exact ⟨rfl, _, rfl⟩

set_option maxRecDepth 100000 in
set_option maxHeartbeats 4000000 in
theorem numX_nine {w : World} {xb b off cap n : Nat} (most x : Int) (hc0 : w.cell? ⟨xb, 0, none⟩ = some (.slice (some ⟨b, off, none⟩) n cap)) (hc1 : w.cell? ⟨xb, 1, none⟩ = some (.int .i64 0)) (hf1 : w.frozen? ⟨xb, 1, none⟩ = false)
    (hn : 0 < n) (hcx : w.cell? ⟨b, off, none⟩ = some (.int .u8 x)) (hr0 : 255 ≤ x) (hr1 : x < 256) :
    Calls Try.prog 55 #[.pointer (some ⟨xb, 0, none⟩), .int .i64 most] w fun e w' => e = .returned (.int .i64 0) ∧ ∃ nq, w' = (w.drewN nq).setCell ⟨xb, 1, none⟩ (.int .i64 4) := by
  have hz : ((n : Int) == 0) = false := by rw [beq_eq_false_iff_ne]; omega
  have hpos : (0 : Int) < (n : Int) := by omega
  have hx0 : 0 ≤ x := by omega
  have hx1 : x ≤ 255 := by omega
  have hq0 : (bits BinOp.and IntKind.u8 x 128 != 0) = true := by obtain rfl : x = 255 := (by omega); decide +kernel
  have hq1 : (bits BinOp.and IntKind.u8 x 64 != 0) = true := by obtain rfl : x = 255 := (by omega); decide +kernel
  have hq2 : (bits BinOp.and IntKind.u8 x 32 != 0) = true := by obtain rfl : x = 255 := (by omega); decide +kernel
  have hq3 : (bits BinOp.and IntKind.u8 x 16 != 0) = true := by obtain rfl : x = 255 := (by omega); decide +kernel
  have hq4 : (bits BinOp.and IntKind.u8 x 8 != 0) = true := by obtain rfl : x = 255 := (by omega); decide +kernel
  have hq5 : (bits BinOp.and IntKind.u8 x 4 != 0) = true := by obtain rfl : x = 255 := (by omega); decide +kernel
  have hq6 : (bits BinOp.and IntKind.u8 x 2 != 0) = true := by obtain rfl : x = 255 := (by omega); decide +kernel
  have hq7 : (bits BinOp.and IntKind.u8 x 1 != 0) = true := by obtain rfl : x = 255 := (by omega); decide +kernel
  go_enter Try.func55, Try.ntmps55
  go_wp2
  refine wp_loop_rounds 9 ?_
  rw [rounds_succ]
  go_wp2_with fail
  go_quiet (fail)
  go_wp2_with fail
  rw [rounds_succ]
  go_wp2_with fail
  go_quiet (fail)
  go_wp2_with fail
  rw [rounds_succ]
  go_wp2_with fail
  go_quiet (fail)
  go_wp2_with fail
  rw [rounds_succ]
  go_wp2_with fail
  go_quiet (fail)
  go_wp2_with fail
  rw [rounds_succ]
  go_wp2_with fail
  go_quiet (fail)
  go_wp2_with fail
  rw [rounds_succ]
  go_wp2_with fail
  go_quiet (fail)
  go_wp2_with fail
  rw [rounds_succ]
  go_wp2_with fail
  go_quiet (fail)
  go_wp2_with fail
  rw [rounds_succ]
  go_wp2_with fail
  go_quiet (fail)
  go_wp2_with fail
  rw [rounds_succ]
  go_wp2_with fail
  go_quiet (fail)
  go_wp2_with fail
  go_ret
  exact ⟨rfl, _, rfl⟩

variable {XB : Nat}

theorem Rx.drewN {w : World} {xb : Nat} {l : List Int} {e : Int} (h : Rx XB w xb l e) (n : Nat) : Rx XB (w.drewN n) xb l e := by
  obtain ⟨h0, ⟨v, h2, h3⟩, h4, h5, h6⟩ := h
  exact ⟨h0, ⟨v, h2, h3.keep ((Kp.refl (fun _ => False) w).drewN n) (fun _ _ _ h => h)⟩, h4, h5, h6⟩

/-- What the document's reader tells when a number up to 'most' is asked of it. -/
def xStep (most : Int) (l : List Int) (e : Int) : Int × List Int × Int :=
  if e ≠ 0 then (0, l, e) else if (Num.num most l).2.1 ≠ 0 then (0, l, (Num.num most l).2.1) else ((Num.num most l).1, l.drop (Num.num most l).2.2, 0)

def XEnd (XB : Nat) (w : World) (xb : Nat) (r : Int × List Int × Int) (e : Ending) (w' : World) : Prop :=
  e = .returned (.int .i64 r.1) ∧ Rx XB w' xb r.2.1 r.2.2 ∧ Kp (fun b => b = xb) w w'

theorem told_rng (x : Int) (h0 : 0 ≤ x) (h1 : x ≤ 255) : (Num.told x = 1 ∧ 0 ≤ x ∧ x < 128) ∨ (Num.told x = 2 ∧ 128 ≤ x ∧ x < 192) ∨ (Num.told x = 3 ∧ 192 ≤ x ∧ x < 224) ∨ (Num.told x = 4 ∧ 224 ≤ x ∧ x < 240) ∨ (Num.told x = 5 ∧ 240 ≤ x ∧ x < 248)
    ∨ (Num.told x = 6 ∧ 248 ≤ x ∧ x < 252) ∨ (Num.told x = 7 ∧ 252 ≤ x ∧ x < 254) ∨ (Num.told x = 8 ∧ 254 ≤ x ∧ x < 255) ∨ (Num.told x = 9 ∧ 255 ≤ x ∧ x < 256) := by
  unfold Num.told
  repeat' split
  all_goals omega

theorem xStep_err {most e : Int} {l : List Int} (he : e ≠ 0) : xStep most l e = (0, l, e) := by unfold xStep; rw [if_pos he]
theorem xStep_bad {most er : Int} {l : List Int} {n : Int} {k : Nat} (hn : Num.num most l = (n, er, k)) (he : er ≠ 0) : xStep most l 0 = (0, l, er) := by
  unfold xStep; rw [if_neg (by omega), hn, if_pos he]
theorem xStep_ok {most : Int} {l : List Int} {n : Int} {k : Nat} (hn : Num.num most l = (n, 0, k)) : xStep most l 0 = (n, l.drop k, 0) := by
  unfold xStep; rw [if_neg (by omega), hn, if_neg (by simp)]

theorem numX_any {w : World} {xb : Nat} {l : List Int} {e0 : Int} (h : Rx XB w xb l e0) (most : Int) :
    Calls Try.prog 55 #[.pointer (some ⟨xb, 0, none⟩), .int .i64 most] w fun e w' => XEnd XB w xb (xStep most l e0) e w' := by
  by_cases he : e0 ≠ 0
  · rw [xStep_err he]
    refine (numX_err most e0 h.err he).mono ?_
    rintro e w' ⟨rfl, rfl⟩
    exact ⟨rfl, h, Kp.refl _ _⟩
  · have he' : e0 = 0 := by simpa using he
    subst he'
    obtain ⟨v, hv1, hbs⟩ := h.left
    have hbs' := hbs
    obtain ⟨h1, h2, h3⟩ := hbs
    have bad : ∀ (er : Int) (nq : Nat), Num.num most l = (0, er, 0) → er ≠ 0 → XEnd XB w xb (xStep most l 0) (.returned (.int .i64 0)) ((w.drewN nq).setCell ⟨xb, 1, none⟩ (.int .i64 er)) := by
      intro er nq hn hne
      rw [xStep_bad hn hne]
      exact ⟨rfl, (h.drewN nq).setE er, ((Kp.refl _ _).drewN nq).trans (kp_one _ _ _ _)⟩
    by_cases h0 : l.length = 0
    · obtain ⟨a, cap, rfl⟩ := hbs'.len
      rw [h0] at hv1
      refine (numX_none most hv1 h.err h.free1).mono ?_
      rintro e w' ⟨rfl, rfl⟩
      exact bad 3 0 (by unfold Num.num; rw [if_pos h0]) (by decide)
    · rcases h3 with ⟨_, hnil⟩ | ⟨b, off, cap, rfl, hc, hA, hlt, hcell⟩
      · rw [hnil] at h0; exact absurd rfl h0
      · have hx := h1.get 0
        have hcx := hcell 0 (by omega)
        rw [Nat.add_zero] at hcx
        have key : ∀ k, Num.told (l.getD 0 0) = k → k ≤ 8 → k ≤ l.length → ∀ e w', NumXPost w xb b off cap l k most e w' → XEnd XB w xb (xStep most l 0) e w' := by
          intro k hk h8 hkl e w' hp
          obtain ⟨nq, hp⟩ := hp
          have hnum : Num.num most l = if Num.sz (Num.V l k (k - 1)) ≠ k ∨ most < Num.V l k (k - 1) then (0, 4, 0) else (Num.V l k (k - 1), 0, k) := by
            unfold Num.num; rw [if_neg h0, hk, if_neg (by omega), if_neg (by omega)]
          rcases hp with ⟨hbad, rfl, rfl⟩ | ⟨⟨g1, g2⟩, rfl, a, ha, ha', rfl⟩
          · rw [if_pos hbad] at hnum
            exact bad 4 nq hnum (by decide)
          · rw [if_neg (by rintro (q | q); exact q g1; omega)] at hnum
            rw [xStep_ok hnum]
            refine ⟨rfl, (h.drewN nq).setB ?_, ((Kp.refl _ _).drewN nq).trans (kp_one _ _ _ _)⟩
            exact Bs.rest (A := fun b => XB ≤ b ∧ b < xb) (w := w.drewN nq) (b := b) (off := off) (k := k) h1 h2 hc hA hlt hcell (by omega) ha ha'
        have short : ∀ k, Num.told (l.getD 0 0) = k → k ≤ 8 → l.length < k → ∀ e w', (e = Ending.returned (.int .i64 0) ∧ ∃ nq, w' = (w.drewN nq).setCell ⟨xb, 1, none⟩ (.int .i64 3)) → XEnd XB w xb (xStep most l 0) e w' := by
          rintro k hk h8 hs e w' ⟨rfl, nq, rfl⟩
          exact bad 3 nq (by unfold Num.num; rw [if_neg h0, hk, if_neg (by omega), if_pos hs]) (by decide)
        rcases told_rng (l.getD 0 0) hx.1 hx.2 with ht | ht | ht | ht | ht | ht | ht | ht | ht
        · exact (numX1 most hc hv1 h.err h.free0 h.free1 h1 h2 hcell ht.2 (by omega)).mono (key 1 ht.1 (by omega) (by omega))
        · by_cases hs : l.length < 2
          · exact (numX_short2 most _ hv1 h.err h.free1 (by omega) hcx ht.2.1 ht.2.2 hs).mono (short 2 ht.1 (by omega) hs)
          · exact (numX2 most hc hv1 h.err h.free0 h.free1 h1 h2 hcell ht.2 (by omega)).mono (key 2 ht.1 (by omega) (by omega))
        · by_cases hs : l.length < 3
          · exact (numX_short3 most _ hv1 h.err h.free1 (by omega) hcx ht.2.1 ht.2.2 hs).mono (short 3 ht.1 (by omega) hs)
          · exact (numX3 most hc hv1 h.err h.free0 h.free1 h1 h2 hcell ht.2 (by omega)).mono (key 3 ht.1 (by omega) (by omega))
        · by_cases hs : l.length < 4
          · exact (numX_short4 most _ hv1 h.err h.free1 (by omega) hcx ht.2.1 ht.2.2 hs).mono (short 4 ht.1 (by omega) hs)
          · exact (numX4 most hc hv1 h.err h.free0 h.free1 h1 h2 hcell ht.2 (by omega)).mono (key 4 ht.1 (by omega) (by omega))
        · by_cases hs : l.length < 5
          · exact (numX_short5 most _ hv1 h.err h.free1 (by omega) hcx ht.2.1 ht.2.2 hs).mono (short 5 ht.1 (by omega) hs)
          · exact (numX5 most hc hv1 h.err h.free0 h.free1 h1 h2 hcell ht.2 (by omega)).mono (key 5 ht.1 (by omega) (by omega))
        · by_cases hs : l.length < 6
          · exact (numX_short6 most _ hv1 h.err h.free1 (by omega) hcx ht.2.1 ht.2.2 hs).mono (short 6 ht.1 (by omega) hs)
          · exact (numX6 most hc hv1 h.err h.free0 h.free1 h1 h2 hcell ht.2 (by omega)).mono (key 6 ht.1 (by omega) (by omega))
        · by_cases hs : l.length < 7
          · exact (numX_short7 most _ hv1 h.err h.free1 (by omega) hcx ht.2.1 ht.2.2 hs).mono (short 7 ht.1 (by omega) hs)
          · exact (numX7 most hc hv1 h.err h.free0 h.free1 h1 h2 hcell ht.2 (by omega)).mono (key 7 ht.1 (by omega) (by omega))
        · by_cases hs : l.length < 8
          · exact (numX_short8 most _ hv1 h.err h.free1 (by omega) hcx ht.2.1 ht.2.2 hs).mono (short 8 ht.1 (by omega) hs)
          · exact (numX8 most hc hv1 h.err h.free0 h.free1 h1 h2 hcell ht.2 (by omega)).mono (key 8 ht.1 (by omega) (by omega))
        · refine (numX_nine most _ hv1 h.err h.free1 (by omega) hcx ht.2.1 ht.2.2).mono ?_
          rintro e w' ⟨rfl, nq, rfl⟩
          exact bad 4 nq (by unfold Num.num; rw [if_neg h0, ht.1, if_pos rfl]) (by decide)

theorem numX_is {w : World} {xb : Nat} {l l' : List Int} {e0 e1 n : Int} (h : Rx XB w xb l e0) (most : Int) (hs : xStep most l e0 = (n, l', e1)) :
    Calls Try.prog 55 #[.pointer (some ⟨xb, 0, none⟩), .int .i64 most] w fun e w' => e = .returned (.int .i64 n) ∧ Rx XB w' xb l' e1 ∧ Kp (fun b => b = xb) w w' := by
  refine (numX_any h most).mono ?_
  rw [hs]
  exact fun e w' h => h

set_option maxHeartbeats 400000 in
theorem UX_is {w : World} {xb : Nat} {l l' : List Int} {e0 e1 n : Int} (h : Rx XB w xb l e0) (hs : xStep 9007199254740991 l e0 = (n, l', e1)) :
    Calls Try.prog 44 #[.pointer (some ⟨xb, 0, none⟩)] w fun e w' => e = .returned (.int .i64 n) ∧ Rx XB w' xb l' e1 ∧ Kp (fun b => b = xb) w w' := by
  have H := hd h
  have HS := hd hs
  clear h hs
  go_enter Try.func44, Try.ntmps44
  go_wp2_with (go_at_call 55; refine (numX_is H.out _ HS.out).mono ?_; rintro e w1 ⟨rfl, hr, hk⟩; have HR := hd hr; have HKP := hd hk; clear hr hk)
  go_ret
  exact ⟨rfl, HR.out, HKP.out⟩

end Go.Proofs.Ytcgimbomandjfaa
