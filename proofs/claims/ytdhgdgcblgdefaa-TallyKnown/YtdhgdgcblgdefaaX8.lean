/- Bytes added bit by bit; the smallest of four numbers; a row of bytes 0 that is made. -/
import Derived.Test.YtdhgdgcblgdefaaCrd
import Derived.Laws.Cover1
import Derived.Deep.OwnRows
namespace Go.Proofs.Ytdhgdgcblgdefaa
open Go.RowKit
set_option linter.unusedVariables false

theorem ofNat_xor (a b : Nat) : BitVec.ofNat 32 (a ^^^ b) = BitVec.ofNat 32 a ^^^ BitVec.ofNat 32 b := by
  apply BitVec.eq_of_getLsbD_eq
  intro i hi
  rw [BitVec.getLsbD_xor, BitVec.getLsbD_ofNat, BitVec.getLsbD_ofNat, BitVec.getLsbD_ofNat, decide_eq_true hi, Bool.true_and, Bool.true_and, Bool.true_and, Nat.testBit_xor]

theorem xor8 (x y : Int) (hx : 0 ≤ x ∧ x ≤ 255) (hy : 0 ≤ y ∧ y ≤ 255) :
    (0 ≤ bits .xor .u8 x y ∧ bits .xor .u8 x y ≤ 255) ∧ Crc.byt (bits .xor .u8 x y) = Crc.byt x ^^^ Crc.byt y := by
  rw [u8_xor x y hx.1 (by omega) hy.1 (by omega)]
  have hlt : x.toNat ^^^ y.toNat < 2 ^ 8 := Nat.xor_lt_two_pow (by omega) (by omega)
  refine ⟨by omega, ?_⟩
  unfold Crc.byt
  rw [Int.toNat_natCast, ofNat_xor]

theorem run_min4 (w : World) (x y z n : Nat) (h1 : n ≤ x) (h2 : n ≤ y) (h3 : n ≤ z) (h4 : n ≤ 5000) (h : n = x ∨ n = y ∨ n = z ∨ n = 5000) :
    (Builtin.min_ #[3, 3, 3, 3] 3 #[.int .i64 (x : Int), .int .i64 (y : Int), .int .i64 (z : Int), .int .i64 5000]).run Try.prog w = .ok (.int .i64 (n : Int)) w := by
  simp only [Builtin.min_, Builtin.min2, List.foldlM_cons, List.foldlM_nil, pure_bind, Sem.run_pure, Result.ok.injEq, Value.int.injEq, true_and, and_true]
  split <;> split <;> split <;> omega

theorem info5' : (Try.prog.info? 5).map (fun i => (i.zero, i.size, i.bytes)) = some (some (.int .u8 0), 1, 1) := by kernel_rfl

theorem run_make5 (n : Nat) (h : n ≤ 5000) (w : World) : (Instr.makeSlice 23 (.int .i64 (n : Int)) (.int .i64 (n : Int))).run Try.prog w = .ok (.slice (some ⟨w.heap.size, 0, none⟩) n n) (w.alloc (.cells (madeCells #[.int .u8 0] n) 5)) :=
  run_make_row' (P := Try.prog) 23 5 (.int .u8 0) 1 und23 info5' rfl .i64 .i64 n (by omega) (by omega) w

end Go.Proofs.Ytdhgdgcblgdefaa
