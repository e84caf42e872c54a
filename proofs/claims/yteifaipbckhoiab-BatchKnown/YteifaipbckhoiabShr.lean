/- strings.Repeat, as the library's contract has it. -/
import Derived.Test.YteifaipbckhoiabMe
import Derived.Shelf.Strings.Repeat
namespace Go.Proofs.Yteifaipbckhoiab
open Go.RowKit Go.Shelf Go.Proofs
set_option linter.unusedVariables false

def repeatL_ren : Go.Shelf.Ren := ⟨fun | 105 => 10 | 212 => 21 | 99 => 22 | 165 => 23 | 166 => 24 | 170 => 25 | 169 => 26 | 263 => 38 | 264 => 39 | 206 => 40 | 240 => 41 | 241 => 42 | 276 => 53 | 277 => 54 | n => n, fun | 9 => 9 | 3 => 3 | 4 => 4 | 20 => 20 | 0 => 0 | 46 => 55 | 109 => 56 | 5 => 5 | 72 => 61 | 76 => 65 | 51 => 38 | 146 => 81 | 53 => 83 | 148 => 84 | 70 => 59 | 37 => 27 | 75 => 64 | 127 => 86 | 164 => 101 | 80 => 68 | n => n, fun | n => n⟩
theorem repeatL : Go.Proofs.Lays.n105 Try.prog repeatL_ren := {
  mixed := by kernel_rfl,
  f99 := Try.func22.trans (congrArg some (by kernel_rfl)),
  f105 := Try.func10.trans (congrArg some (by kernel_rfl)),
  f165 := Try.func23.trans (congrArg some (by kernel_rfl)),
  f166 := Try.func24.trans (congrArg some (by kernel_rfl)),
  f169 := Try.func26.trans (congrArg some (by kernel_rfl)),
  f170 := Try.func25.trans (congrArg some (by kernel_rfl)),
  f206 := Try.func40.trans (congrArg some (by kernel_rfl)),
  f212 := Try.func21.trans (congrArg some (by kernel_rfl)),
  f240 := Try.func41.trans (congrArg some (by kernel_rfl)),
  f241 := Try.func42.trans (congrArg some (by kernel_rfl)),
  f263 := Try.func38.trans (congrArg some (by kernel_rfl)),
  f264 := Try.func39.trans (congrArg some (by kernel_rfl)),
  f276 := Try.func53.trans (congrArg some (by kernel_rfl)),
  f277 := Try.func54.trans (congrArg some (by kernel_rfl)),
  t0 := Try.underlying0,
  a0 := Try.isAgg0,
  z0 := Try.sizeOf0,
  v0 := Try.zeroValue0,
  t3 := Try.underlying3,
  a3 := Try.isAgg3,
  z3 := Try.sizeOf3,
  v3 := Try.zeroValue3,
  t4 := Try.underlying4,
  a4 := Try.isAgg4,
  z4 := Try.sizeOf4,
  v4 := Try.zeroValue4,
  t5 := Try.underlying5,
  a5 := Try.isAgg5,
  z5 := Try.sizeOf5,
  v5 := Try.zeroValue5,
  t9 := Try.underlying9,
  a9 := Try.isAgg9,
  z9 := Try.sizeOf9,
  v9 := Try.zeroValue9,
  t20 := Try.underlying20,
  a20 := Try.isAgg20,
  z20 := Try.sizeOf20,
  v20 := Try.zeroValue20,
  t37 := Try.underlying27,
  a37 := Try.isAgg27,
  z37 := Try.sizeOf27,
  v37 := Try.zeroValue27,
  t46 := Try.underlying55,
  a46 := Try.isAgg55,
  z46 := Try.sizeOf55,
  v46 := Try.zeroValue55,
  t51 := Try.underlying38,
  a51 := Try.isAgg38,
  z51 := Try.sizeOf38,
  v51 := Try.zeroValue38,
  t53 := Try.underlying83,
  a53 := Try.isAgg83,
  z53 := Try.sizeOf83,
  v53 := Try.zeroValue83,
  t70 := Try.underlying59,
  a70 := Try.isAgg59,
  z70 := Try.sizeOf59,
  v70 := Try.zeroValue59,
  t72 := Try.underlying61,
  a72 := Try.isAgg61,
  z72 := Try.sizeOf61,
  v72 := Try.zeroValue61,
  t75 := Try.underlying64,
  a75 := Try.isAgg64,
  z75 := Try.sizeOf64,
  v75 := Try.zeroValue64,
  t76 := Try.underlying65,
  a76 := Try.isAgg65,
  z76 := Try.sizeOf65,
  v76 := Try.zeroValue65,
  t109 := Try.underlying56,
  a109 := Try.isAgg56,
  z109 := Try.sizeOf56,
  v109 := Try.zeroValue56,
  t127 := Try.underlying86,
  a127 := Try.isAgg86,
  z127 := Try.sizeOf86,
  v127 := Try.zeroValue86,
  t146 := Try.underlying81,
  a146 := Try.isAgg81,
  z146 := Try.sizeOf81,
  v146 := Try.zeroValue81,
  t148 := Try.underlying84,
  a148 := Try.isAgg84,
  z148 := Try.sizeOf84,
  v148 := Try.zeroValue84,
  t164 := Try.underlying101,
  a164 := Try.isAgg101,
  z164 := Try.sizeOf101,
  v164 := Try.zeroValue101 }

theorem repeatX : Builder.Extra Try.prog repeatL_ren := {
  sizeBuilder := by kernel_rfl,
  liesBuilder := by kernel_rfl,
  t5 := repeatL.t5,
  a5 := repeatL.a5,
  z5 := repeatL.z5,
  v5 := repeatL.v5,
  infoByte := by kernel_rfl,
  cellsByte := by kernel_rfl,
  sizeByte := by kernel_rfl,
  neB5 := by decide }
theorem repeatL_len (l : List UInt8) (n : Nat) : (Lib.repeatL l n).length = l.length * n := by rw [Lib.repeatL_length, Nat.mul_comm]
theorem repeat_any (s : ByteArray) (n : Nat) (w : World) (h : s.size * n ≤ 140737488355328) (hn : n ≤ 9223372036854775807) : Calls Try.prog 10 #[.string s, .int .i64 (n : Int)] w fun e w' => ∃ S : ByteArray, e = .returned (.string S) ∧ S.size = s.size * n ∧ Below w.heap.size w w' := by
  refine (Any.strings_Repeat repeatL repeatX s n w hn h).mono ?_
  rintro e w' ⟨rfl, hb⟩
  refine ⟨_, rfl, ?_, hb⟩
  have e := repeatL_len s.data.toList n
  show ((Lib.repeatL s.data.toList n).toArray).size = _
  rw [List.size_toArray, e]
  rw [Array.length_toList]
  rfl
end Go.Proofs.Yteifaipbckhoiab
