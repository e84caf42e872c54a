/- strings.Repeat, as the library's contract has it. -/
import Derived.Test.YtibnjhnecfcimabMe
import Derived.Shelf.Strings.Repeat
namespace Go.Proofs.Ytibnjhnecfcimab
open Go.RowKit Go.Shelf Go.Proofs
set_option linter.unusedVariables false

def repeatL_ren : Go.Shelf.Ren := ⟨fun | 105 => 6 | 212 => 15 | 99 => 16 | 165 => 17 | 166 => 18 | 170 => 19 | 169 => 20 | 263 => 36 | 264 => 37 | 206 => 38 | 240 => 39 | 241 => 40 | 276 => 53 | 277 => 54 | n => n, fun | 9 => 9 | 3 => 3 | 4 => 4 | 20 => 20 | 0 => 0 | 46 => 46 | 109 => 47 | 5 => 5 | 72 => 52 | 76 => 56 | 51 => 28 | 146 => 75 | 53 => 77 | 148 => 78 | 70 => 50 | 37 => 35 | 75 => 55 | 127 => 80 | 164 => 90 | 80 => 59 | n => n, fun | n => n⟩
theorem repeatL : Go.Proofs.Lays.n105 Try.prog repeatL_ren := {
  mixed := by kernel_rfl,
  f99 := Try.func16.trans (congrArg some (by kernel_rfl)),
  f105 := Try.func6.trans (congrArg some (by kernel_rfl)),
  f165 := Try.func17.trans (congrArg some (by kernel_rfl)),
  f166 := Try.func18.trans (congrArg some (by kernel_rfl)),
  f169 := Try.func20.trans (congrArg some (by kernel_rfl)),
  f170 := Try.func19.trans (congrArg some (by kernel_rfl)),
  f206 := Try.func38.trans (congrArg some (by kernel_rfl)),
  f212 := Try.func15.trans (congrArg some (by kernel_rfl)),
  f240 := Try.func39.trans (congrArg some (by kernel_rfl)),
  f241 := Try.func40.trans (congrArg some (by kernel_rfl)),
  f263 := Try.func36.trans (congrArg some (by kernel_rfl)),
  f264 := Try.func37.trans (congrArg some (by kernel_rfl)),
  f276 := Try.func53.trans (congrArg some (by kernel_rfl)),
  f277 := Try.func54.trans (congrArg some (by kernel_rfl)),
  t0 := Try.underlying0,
  a0 := Try.isAgg0,
  z0 := Try.sizeOf0,
  v0 := Try.zeroValue0,
  t3 := Try.underlying3,
  a3 := Try.isAgg3,
  z3 := Try.sizeOf3,
  v3 := Try.zeroValue3,
  t4 := Try.underlying4,
  a4 := Try.isAgg4,
  z4 := Try.sizeOf4,
  v4 := Try.zeroValue4,
  t5 := Try.underlying5,
  a5 := Try.isAgg5,
  z5 := Try.sizeOf5,
  v5 := Try.zeroValue5,
  t9 := Try.underlying9,
  a9 := Try.isAgg9,
  z9 := Try.sizeOf9,
  v9 := Try.zeroValue9,
  t20 := Try.underlying20,
  a20 := Try.isAgg20,
  z20 := Try.sizeOf20,
  v20 := Try.zeroValue20,
  t37 := Try.underlying35,
  a37 := Try.isAgg35,
  z37 := Try.sizeOf35,
  v37 := Try.zeroValue35,
  t46 := Try.underlying46,
  a46 := Try.isAgg46,
  z46 := Try.sizeOf46,
  v46 := Try.zeroValue46,
  t51 := Try.underlying28,
  a51 := Try.isAgg28,
  z51 := Try.sizeOf28,
  v51 := Try.zeroValue28,
  t53 := Try.underlying77,
  a53 := Try.isAgg77,
  z53 := Try.sizeOf77,
  v53 := Try.zeroValue77,
  t70 := Try.underlying50,
  a70 := Try.isAgg50,
  z70 := Try.sizeOf50,
  v70 := Try.zeroValue50,
  t72 := Try.underlying52,
  a72 := Try.isAgg52,
  z72 := Try.sizeOf52,
  v72 := Try.zeroValue52,
  t75 := Try.underlying55,
  a75 := Try.isAgg55,
  z75 := Try.sizeOf55,
  v75 := Try.zeroValue55,
  t76 := Try.underlying56,
  a76 := Try.isAgg56,
  z76 := Try.sizeOf56,
  v76 := Try.zeroValue56,
  t109 := Try.underlying47,
  a109 := Try.isAgg47,
  z109 := Try.sizeOf47,
  v109 := Try.zeroValue47,
  t127 := Try.underlying80,
  a127 := Try.isAgg80,
  z127 := Try.sizeOf80,
  v127 := Try.zeroValue80,
  t146 := Try.underlying75,
  a146 := Try.isAgg75,
  z146 := Try.sizeOf75,
  v146 := Try.zeroValue75,
  t148 := Try.underlying78,
  a148 := Try.isAgg78,
  z148 := Try.sizeOf78,
  v148 := Try.zeroValue78,
  t164 := Try.underlying90,
  a164 := Try.isAgg90,
  z164 := Try.sizeOf90,
  v164 := Try.zeroValue90 }

theorem repeatX : Builder.Extra Try.prog repeatL_ren := {
  sizeBuilder := by kernel_rfl,
  liesBuilder := by kernel_rfl,
  t5 := repeatL.t5,
  a5 := repeatL.a5,
  z5 := repeatL.z5,
  v5 := repeatL.v5,
  infoByte := by kernel_rfl,
  cellsByte := by kernel_rfl,
  sizeByte := by kernel_rfl,
  neB5 := by decide }
theorem repeatL_len (l : List UInt8) (n : Nat) : (Lib.repeatL l n).length = l.length * n := by rw [Lib.repeatL_length, Nat.mul_comm]
theorem repeat_any (s : ByteArray) (n : Nat) (w : World) (h : s.size * n ≤ 140737488355328) (hn : n ≤ 9223372036854775807) : Calls Try.prog 6 #[.string s, .int .i64 (n : Int)] w fun e w' => ∃ S : ByteArray, e = .returned (.string S) ∧ S.size = s.size * n ∧ Below w.heap.size w w' := by
  refine (Any.strings_Repeat repeatL repeatX s n w hn h).mono ?_
  rintro e w' ⟨rfl, hb⟩
  refine ⟨_, rfl, ?_, hb⟩
  have e := repeatL_len s.data.toList n
  show ((Lib.repeatL s.data.toList n).toArray).size = _
  rw [List.size_toArray, e]
  rw [Array.length_toList]
  rfl
end Go.Proofs.Ytibnjhnecfcimab
