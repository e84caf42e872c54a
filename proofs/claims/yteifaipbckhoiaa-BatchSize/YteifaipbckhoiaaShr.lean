/- strings.Repeat, as the library's contract has it. -/
import Derived.Test.YteifaipbckhoiaaMe
import Derived.Shelf.Strings.Repeat
namespace Go.Proofs.Yteifaipbckhoiaa
open Go.RowKit Go.Shelf Go.Proofs
set_option linter.unusedVariables false

def repeatL_ren : Go.Shelf.Ren := ⟨fun | 105 => 24 | 212 => 48 | 99 => 49 | 165 => 50 | 166 => 51 | 170 => 52 | 169 => 53 | 263 => 74 | 264 => 75 | 206 => 76 | 240 => 77 | 241 => 78 | 276 => 97 | 277 => 98 | n => n, fun | 9 => 9 | 3 => 3 | 4 => 4 | 20 => 20 | 0 => 0 | 46 => 81 | 109 => 82 | 5 => 5 | 72 => 87 | 76 => 91 | 51 => 50 | 146 => 112 | 53 => 114 | 148 => 115 | 70 => 85 | 37 => 26 | 75 => 90 | 127 => 117 | 164 => 132 | 80 => 93 | n => n, fun | n => n⟩
theorem repeatL : Go.Proofs.Lays.n105 Try.prog repeatL_ren := {
  mixed := by kernel_rfl,
  f99 := Try.func49.trans (congrArg some (by kernel_rfl)),
  f105 := Try.func24.trans (congrArg some (by kernel_rfl)),
  f165 := Try.func50.trans (congrArg some (by kernel_rfl)),
  f166 := Try.func51.trans (congrArg some (by kernel_rfl)),
  f169 := Try.func53.trans (congrArg some (by kernel_rfl)),
  f170 := Try.func52.trans (congrArg some (by kernel_rfl)),
  f206 := Try.func76.trans (congrArg some (by kernel_rfl)),
  f212 := Try.func48.trans (congrArg some (by kernel_rfl)),
  f240 := Try.func77.trans (congrArg some (by kernel_rfl)),
  f241 := Try.func78.trans (congrArg some (by kernel_rfl)),
  f263 := Try.func74.trans (congrArg some (by kernel_rfl)),
  f264 := Try.func75.trans (congrArg some (by kernel_rfl)),
  f276 := Try.func97.trans (congrArg some (by kernel_rfl)),
  f277 := Try.func98.trans (congrArg some (by kernel_rfl)),
  t0 := Try.underlying0,
  a0 := Try.isAgg0,
  z0 := Try.sizeOf0,
  v0 := Try.zeroValue0,
  t3 := Try.underlying3,
  a3 := Try.isAgg3,
  z3 := Try.sizeOf3,
  v3 := Try.zeroValue3,
  t4 := Try.underlying4,
  a4 := Try.isAgg4,
  z4 := Try.sizeOf4,
  v4 := Try.zeroValue4,
  t5 := Try.underlying5,
  a5 := Try.isAgg5,
  z5 := Try.sizeOf5,
  v5 := Try.zeroValue5,
  t9 := Try.underlying9,
  a9 := Try.isAgg9,
  z9 := Try.sizeOf9,
  v9 := Try.zeroValue9,
  t20 := Try.underlying20,
  a20 := Try.isAgg20,
  z20 := Try.sizeOf20,
  v20 := Try.zeroValue20,
  t37 := Try.underlying26,
  a37 := Try.isAgg26,
  z37 := Try.sizeOf26,
  v37 := Try.zeroValue26,
  t46 := Try.underlying81,
  a46 := Try.isAgg81,
  z46 := Try.sizeOf81,
  v46 := Try.zeroValue81,
  t51 := Try.underlying50,
  a51 := Try.isAgg50,
  z51 := Try.sizeOf50,
  v51 := Try.zeroValue50,
  t53 := Try.underlying114,
  a53 := Try.isAgg114,
  z53 := Try.sizeOf114,
  v53 := Try.zeroValue114,
  t70 := Try.underlying85,
  a70 := Try.isAgg85,
  z70 := Try.sizeOf85,
  v70 := Try.zeroValue85,
  t72 := Try.underlying87,
  a72 := Try.isAgg87,
  z72 := Try.sizeOf87,
  v72 := Try.zeroValue87,
  t75 := Try.underlying90,
  a75 := Try.isAgg90,
  z75 := Try.sizeOf90,
  v75 := Try.zeroValue90,
  t76 := Try.underlying91,
  a76 := Try.isAgg91,
  z76 := Try.sizeOf91,
  v76 := Try.zeroValue91,
  t109 := Try.underlying82,
  a109 := Try.isAgg82,
  z109 := Try.sizeOf82,
  v109 := Try.zeroValue82,
  t127 := Try.underlying117,
  a127 := Try.isAgg117,
  z127 := Try.sizeOf117,
  v127 := Try.zeroValue117,
  t146 := Try.underlying112,
  a146 := Try.isAgg112,
  z146 := Try.sizeOf112,
  v146 := Try.zeroValue112,
  t148 := Try.underlying115,
  a148 := Try.isAgg115,
  z148 := Try.sizeOf115,
  v148 := Try.zeroValue115,
  t164 := Try.underlying132,
  a164 := Try.isAgg132,
  z164 := Try.sizeOf132,
  v164 := Try.zeroValue132 }

theorem repeatX : Builder.Extra Try.prog repeatL_ren := {
  sizeBuilder := by kernel_rfl,
  liesBuilder := by kernel_rfl,
  t5 := repeatL.t5,
  a5 := repeatL.a5,
  z5 := repeatL.z5,
  v5 := repeatL.v5,
  infoByte := by kernel_rfl,
  cellsByte := by kernel_rfl,
  sizeByte := by kernel_rfl,
  neB5 := by decide }
theorem repeatL_len (l : List UInt8) (n : Nat) : (Lib.repeatL l n).length = l.length * n := by rw [Lib.repeatL_length, Nat.mul_comm]
theorem repeat_any (s : ByteArray) (n : Nat) (w : World) (h : s.size * n ≤ 140737488355328) (hn : n ≤ 9223372036854775807) : Calls Try.prog 24 #[.string s, .int .i64 (n : Int)] w fun e w' => ∃ S : ByteArray, e = .returned (.string S) ∧ S.size = s.size * n ∧ Below w.heap.size w w' := by
  refine (Any.strings_Repeat repeatL repeatX s n w hn h).mono ?_
  rintro e w' ⟨rfl, hb⟩
  refine ⟨_, rfl, ?_, hb⟩
  have e := repeatL_len s.data.toList n
  show ((Lib.repeatL s.data.toList n).toArray).size = _
  rw [List.size_toArray, e]
  rw [Array.length_toList]
  rfl
end Go.Proofs.Yteifaipbckhoiaa
