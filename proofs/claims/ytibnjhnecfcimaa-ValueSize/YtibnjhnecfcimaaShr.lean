/- strings.Repeat, as the library's contract has it. -/
import Derived.Test.YtibnjhnecfcimaaMe
import Derived.Shelf.Strings.Repeat
namespace Go.Proofs.Ytibnjhnecfcimaa
open Go.RowKit Go.Shelf Go.Proofs
set_option linter.unusedVariables false

def repeatL_ren : Go.Shelf.Ren := ⟨fun | 105 => 34 | 212 => 71 | 99 => 72 | 165 => 73 | 166 => 74 | 170 => 75 | 169 => 76 | 263 => 93 | 264 => 94 | 206 => 95 | 240 => 96 | 241 => 97 | 276 => 105 | 277 => 106 | n => n, fun | 9 => 9 | 3 => 3 | 4 => 4 | 20 => 20 | 0 => 0 | 46 => 86 | 109 => 87 | 5 => 5 | 72 => 92 | 76 => 96 | 51 => 31 | 146 => 107 | 53 => 109 | 148 => 110 | 70 => 90 | 37 => 25 | 75 => 95 | 127 => 112 | 164 => 116 | 80 => 98 | n => n, fun | n => n⟩
theorem repeatL : Go.Proofs.Lays.n105 Try.prog repeatL_ren := {
  mixed := by kernel_rfl,
  f99 := Try.func72.trans (congrArg some (by kernel_rfl)),
  f105 := Try.func34.trans (congrArg some (by kernel_rfl)),
  f165 := Try.func73.trans (congrArg some (by kernel_rfl)),
  f166 := Try.func74.trans (congrArg some (by kernel_rfl)),
  f169 := Try.func76.trans (congrArg some (by kernel_rfl)),
  f170 := Try.func75.trans (congrArg some (by kernel_rfl)),
  f206 := Try.func95.trans (congrArg some (by kernel_rfl)),
  f212 := Try.func71.trans (congrArg some (by kernel_rfl)),
  f240 := Try.func96.trans (congrArg some (by kernel_rfl)),
  f241 := Try.func97.trans (congrArg some (by kernel_rfl)),
  f263 := Try.func93.trans (congrArg some (by kernel_rfl)),
  f264 := Try.func94.trans (congrArg some (by kernel_rfl)),
  f276 := Try.func105.trans (congrArg some (by kernel_rfl)),
  f277 := Try.func106.trans (congrArg some (by kernel_rfl)),
  t0 := Try.underlying0,
  a0 := Try.isAgg0,
  z0 := Try.sizeOf0,
  v0 := Try.zeroValue0,
  t3 := Try.underlying3,
  a3 := Try.isAgg3,
  z3 := Try.sizeOf3,
  v3 := Try.zeroValue3,
  t4 := Try.underlying4,
  a4 := Try.isAgg4,
  z4 := Try.sizeOf4,
  v4 := Try.zeroValue4,
  t5 := Try.underlying5,
  a5 := Try.isAgg5,
  z5 := Try.sizeOf5,
  v5 := Try.zeroValue5,
  t9 := Try.underlying9,
  a9 := Try.isAgg9,
  z9 := Try.sizeOf9,
  v9 := Try.zeroValue9,
  t20 := Try.underlying20,
  a20 := Try.isAgg20,
  z20 := Try.sizeOf20,
  v20 := Try.zeroValue20,
  t37 := Try.underlying25,
  a37 := Try.isAgg25,
  z37 := Try.sizeOf25,
  v37 := Try.zeroValue25,
  t46 := Try.underlying86,
  a46 := Try.isAgg86,
  z46 := Try.sizeOf86,
  v46 := Try.zeroValue86,
  t51 := Try.underlying31,
  a51 := Try.isAgg31,
  z51 := Try.sizeOf31,
  v51 := Try.zeroValue31,
  t53 := Try.underlying109,
  a53 := Try.isAgg109,
  z53 := Try.sizeOf109,
  v53 := Try.zeroValue109,
  t70 := Try.underlying90,
  a70 := Try.isAgg90,
  z70 := Try.sizeOf90,
  v70 := Try.zeroValue90,
  t72 := Try.underlying92,
  a72 := Try.isAgg92,
  z72 := Try.sizeOf92,
  v72 := Try.zeroValue92,
  t75 := Try.underlying95,
  a75 := Try.isAgg95,
  z75 := Try.sizeOf95,
  v75 := Try.zeroValue95,
  t76 := Try.underlying96,
  a76 := Try.isAgg96,
  z76 := Try.sizeOf96,
  v76 := Try.zeroValue96,
  t109 := Try.underlying87,
  a109 := Try.isAgg87,
  z109 := Try.sizeOf87,
  v109 := Try.zeroValue87,
  t127 := Try.underlying112,
  a127 := Try.isAgg112,
  z127 := Try.sizeOf112,
  v127 := Try.zeroValue112,
  t146 := Try.underlying107,
  a146 := Try.isAgg107,
  z146 := Try.sizeOf107,
  v146 := Try.zeroValue107,
  t148 := Try.underlying110,
  a148 := Try.isAgg110,
  z148 := Try.sizeOf110,
  v148 := Try.zeroValue110,
  t164 := Try.underlying116,
  a164 := Try.isAgg116,
  z164 := Try.sizeOf116,
  v164 := Try.zeroValue116 }

theorem repeatX : Builder.Extra Try.prog repeatL_ren := {
  sizeBuilder := by kernel_rfl,
  liesBuilder := by kernel_rfl,
  t5 := repeatL.t5,
  a5 := repeatL.a5,
  z5 := repeatL.z5,
  v5 := repeatL.v5,
  infoByte := by kernel_rfl,
  cellsByte := by kernel_rfl,
  sizeByte := by kernel_rfl,
  neB5 := by decide }
theorem repeatL_len (l : List UInt8) (n : Nat) : (Lib.repeatL l n).length = l.length * n := by rw [Lib.repeatL_length, Nat.mul_comm]
theorem repeat_any (s : ByteArray) (n : Nat) (w : World) (h : s.size * n ≤ 140737488355328) (hn : n ≤ 9223372036854775807) : Calls Try.prog 34 #[.string s, .int .i64 (n : Int)] w fun e w' => ∃ S : ByteArray, e = .returned (.string S) ∧ S.size = s.size * n ∧ Below w.heap.size w w' := by
  refine (Any.strings_Repeat repeatL repeatX s n w hn h).mono ?_
  rintro e w' ⟨rfl, hb⟩
  refine ⟨_, rfl, ?_, hb⟩
  have e := repeatL_len s.data.toList n
  show ((Lib.repeatL s.data.toList n).toArray).size = _
  rw [List.size_toArray, e]
  rw [Array.length_toList]
  rfl
end Go.Proofs.Ytibnjhnecfcimaa
