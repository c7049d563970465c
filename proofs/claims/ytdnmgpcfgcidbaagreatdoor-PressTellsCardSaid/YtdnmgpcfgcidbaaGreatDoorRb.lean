/- strings.Builder: the library's contracts laid over this program. -/
import Derived.Shelf.Strings.Builder1
import Derived.Shelf.Strings.Builder2
import Derived.Test.YtdnmgpcfgcidbaaGreatDoorRows
import Derived.Test.YtdnmgpcfgcidbaaGreatDoorRs
namespace Go.Proofs.YtdnmgpcfgcidbaaGreatDoor
open Go.RowKit Go.Shelf
set_option linter.unusedVariables false
def bgL_ren : Go.Shelf.Ren := ⟨fun | 165 => 85 | 240 => 151 | 241 => 152 | 276 => 201 | 277 => 202 | n => n, fun | 70 => 173 | 3 => 3 | 0 => 0 | 4 => 4 | 9 => 9 | 20 => 20 | 72 => 175 | 37 => 158 | 164 => 303 | 5 => 5 | n => n, fun | n => n⟩
theorem bgL : Go.Proofs.Lays.n165 Tryz.prog bgL_ren := {
  mixed := by kernel_rfl,
  f165 := Tryz.func85.trans (congrArg some (by kernel_rfl)),
  f240 := Tryz.func151.trans (congrArg some (by kernel_rfl)),
  f241 := Tryz.func152.trans (congrArg some (by kernel_rfl)),
  f276 := Tryz.func201.trans (congrArg some (by kernel_rfl)),
  f277 := Tryz.func202.trans (congrArg some (by kernel_rfl)),
  t0 := Tryz.underlying0,
  a0 := Tryz.isAgg0,
  z0 := Tryz.sizeOf0,
  v0 := Tryz.zeroValue0,
  t3 := Tryz.underlying3,
  a3 := Tryz.isAgg3,
  z3 := Tryz.sizeOf3,
  v3 := Tryz.zeroValue3,
  t4 := Tryz.underlying4,
  a4 := Tryz.isAgg4,
  z4 := Tryz.sizeOf4,
  v4 := Tryz.zeroValue4,
  t9 := Tryz.underlying9,
  a9 := Tryz.isAgg9,
  z9 := Tryz.sizeOf9,
  v9 := Tryz.zeroValue9,
  t20 := Tryz.underlying20,
  a20 := Tryz.isAgg20,
  z20 := Tryz.sizeOf20,
  v20 := Tryz.zeroValue20,
  t37 := Tryz.underlying158,
  a37 := Tryz.isAgg158,
  z37 := Tryz.sizeOf158,
  v37 := Tryz.zeroValue158,
  t70 := Tryz.underlying173,
  a70 := Tryz.isAgg173,
  z70 := Tryz.sizeOf173,
  v70 := Tryz.zeroValue173,
  t72 := Tryz.underlying175,
  a72 := Tryz.isAgg175,
  z72 := Tryz.sizeOf175,
  v72 := Tryz.zeroValue175,
  t164 := Tryz.underlying303,
  a164 := Tryz.isAgg303,
  z164 := Tryz.sizeOf303,
  v164 := Tryz.zeroValue303 }

theorem bgLX : Builder.Extra Tryz.prog bgL_ren := {
  sizeBuilder := by kernel_rfl,
  liesBuilder := by kernel_rfl,
  t5 := Tryz.underlying5,
  a5 := Tryz.isAgg5,
  z5 := Tryz.sizeOf5,
  v5 := Tryz.zeroValue5,
  infoByte := by kernel_rfl,
  cellsByte := by kernel_rfl,
  sizeByte := by kernel_rfl,
  neB5 := by decide }
end Go.Proofs.YtdnmgpcfgcidbaaGreatDoor
