/- strings.Join, as the library's contract has it. -/
import Derived.Test.YtcigbfjmnhogiabGreatDoorBas
import Derived.Shelf.Strings.OnBuilder
import Derived.Shelf.Strings.Split
import Derived.Shelf.Strings.Prefix
namespace Go.Proofs.YtcigbfjmnhogiabGreatDoor
open Go.RowKit Go.Shelf
set_option linter.unusedVariables false

def joinL_ren : Go.Shelf.Ren := ⟨fun | 156 => 46 | 165 => 13 | 166 => 14 | 169 => 16 | 240 => 35 | 241 => 36 | 276 => 51 | 277 => 52 | n => n, fun | 31 => 24 | 9 => 9 | 3 => 3 | 4 => 4 | 0 => 0 | 20 => 20 | 72 => 52 | 76 => 56 | 70 => 49 | 37 => 50 | 75 => 55 | 127 => 81 | 164 => 98 | 5 => 5 | 80 => 59 | n => n, fun | n => n⟩
theorem joinL : Go.Proofs.Lays.n156 Tryz.prog joinL_ren := {
  mixed := by kernel_rfl,
  f156 := Tryz.func46.trans (congrArg some (by kernel_rfl)),
  f165 := Tryz.func13.trans (congrArg some (by kernel_rfl)),
  f166 := Tryz.func14.trans (congrArg some (by kernel_rfl)),
  f169 := Tryz.func16.trans (congrArg some (by kernel_rfl)),
  f240 := Tryz.func35.trans (congrArg some (by kernel_rfl)),
  f241 := Tryz.func36.trans (congrArg some (by kernel_rfl)),
  f276 := Tryz.func51.trans (congrArg some (by kernel_rfl)),
  f277 := Tryz.func52.trans (congrArg some (by kernel_rfl)),
  t0 := Tryz.underlying0,
  a0 := Tryz.isAgg0,
  z0 := Tryz.sizeOf0,
  v0 := Tryz.zeroValue0,
  t3 := Tryz.underlying3,
  a3 := Tryz.isAgg3,
  z3 := Tryz.sizeOf3,
  v3 := Tryz.zeroValue3,
  t4 := Tryz.underlying4,
  a4 := Tryz.isAgg4,
  z4 := Tryz.sizeOf4,
  v4 := Tryz.zeroValue4,
  t9 := Tryz.underlying9,
  a9 := Tryz.isAgg9,
  z9 := Tryz.sizeOf9,
  v9 := Tryz.zeroValue9,
  t20 := Tryz.underlying20,
  a20 := Tryz.isAgg20,
  z20 := Tryz.sizeOf20,
  v20 := Tryz.zeroValue20,
  t31 := Tryz.underlying24,
  a31 := Tryz.isAgg24,
  z31 := Tryz.sizeOf24,
  v31 := Tryz.zeroValue24,
  t37 := Tryz.underlying50,
  a37 := Tryz.isAgg50,
  z37 := Tryz.sizeOf50,
  v37 := Tryz.zeroValue50,
  t70 := Tryz.underlying49,
  a70 := Tryz.isAgg49,
  z70 := Tryz.sizeOf49,
  v70 := Tryz.zeroValue49,
  t72 := Tryz.underlying52,
  a72 := Tryz.isAgg52,
  z72 := Tryz.sizeOf52,
  v72 := Tryz.zeroValue52,
  t75 := Tryz.underlying55,
  a75 := Tryz.isAgg55,
  z75 := Tryz.sizeOf55,
  v75 := Tryz.zeroValue55,
  t76 := Tryz.underlying56,
  a76 := Tryz.isAgg56,
  z76 := Tryz.sizeOf56,
  v76 := Tryz.zeroValue56,
  t127 := Tryz.underlying81,
  a127 := Tryz.isAgg81,
  z127 := Tryz.sizeOf81,
  v127 := Tryz.zeroValue81,
  t164 := Tryz.underlying98,
  a164 := Tryz.isAgg98,
  z164 := Tryz.sizeOf98,
  v164 := Tryz.zeroValue98 }

theorem joinX : Go.Proofs.Builder.Extra Tryz.prog joinL_ren := {
  sizeBuilder := by kernel_rfl,
  liesBuilder := by kernel_rfl,
  t5 := Tryz.underlying5,
  a5 := Tryz.isAgg5,
  z5 := Tryz.sizeOf5,
  v5 := Tryz.zeroValue5,
  infoByte := by kernel_rfl,
  cellsByte := by kernel_rfl,
  sizeByte := by kernel_rfl,
  neB5 := by decide }


end Go.Proofs.YtcigbfjmnhogiabGreatDoor
