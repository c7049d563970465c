/- strings.Builder: the library's contracts laid over this program. -/
import Derived.Shelf.Strings.Builder1
import Derived.Shelf.Strings.Builder2
import Derived.Test.YtjinnigjfopbcaaGreatDoorRows
import Derived.Test.YtjinnigjfopbcaaGreatDoorRs
namespace Go.Proofs.YtjinnigjfopbcaaGreatDoor
open Go.RowKit Go.Shelf
set_option linter.unusedVariables false
def bgL_ren : Go.Shelf.Ren := ⟨fun | 165 => 145 | 240 => 224 | 241 => 225 | 276 => 276 | 277 => 277 | n => n, fun | 70 => 252 | 3 => 3 | 0 => 0 | 4 => 4 | 9 => 9 | 20 => 20 | 72 => 254 | 37 => 23 | 164 => 393 | 5 => 5 | n => n, fun | n => n⟩
theorem bgL : Go.Proofs.Lays.n165 Tryz.prog bgL_ren := {
  mixed := by kernel_rfl,
  f165 := Tryz.func145.trans (congrArg some (by kernel_rfl)),
  f240 := Tryz.func224.trans (congrArg some (by kernel_rfl)),
  f241 := Tryz.func225.trans (congrArg some (by kernel_rfl)),
  f276 := Tryz.func276.trans (congrArg some (by kernel_rfl)),
  f277 := Tryz.func277.trans (congrArg some (by kernel_rfl)),
  t0 := Tryz.underlying0,
  a0 := Tryz.isAgg0,
  z0 := Tryz.sizeOf0,
  v0 := Tryz.zeroValue0,
  t3 := Tryz.underlying3,
  a3 := Tryz.isAgg3,
  z3 := Tryz.sizeOf3,
  v3 := Tryz.zeroValue3,
  t4 := Tryz.underlying4,
  a4 := Tryz.isAgg4,
  z4 := Tryz.sizeOf4,
  v4 := Tryz.zeroValue4,
  t9 := Tryz.underlying9,
  a9 := Tryz.isAgg9,
  z9 := Tryz.sizeOf9,
  v9 := Tryz.zeroValue9,
  t20 := Tryz.underlying20,
  a20 := Tryz.isAgg20,
  z20 := Tryz.sizeOf20,
  v20 := Tryz.zeroValue20,
  t37 := Tryz.underlying23,
  a37 := Tryz.isAgg23,
  z37 := Tryz.sizeOf23,
  v37 := Tryz.zeroValue23,
  t70 := Tryz.underlying252,
  a70 := Tryz.isAgg252,
  z70 := Tryz.sizeOf252,
  v70 := Tryz.zeroValue252,
  t72 := Tryz.underlying254,
  a72 := Tryz.isAgg254,
  z72 := Tryz.sizeOf254,
  v72 := Tryz.zeroValue254,
  t164 := Tryz.underlying393,
  a164 := Tryz.isAgg393,
  z164 := Tryz.sizeOf393,
  v164 := Tryz.zeroValue393 }

theorem bgLX : Builder.Extra Tryz.prog bgL_ren := {
  sizeBuilder := by kernel_rfl,
  liesBuilder := by kernel_rfl,
  t5 := Tryz.underlying5,
  a5 := Tryz.isAgg5,
  z5 := Tryz.sizeOf5,
  v5 := Tryz.zeroValue5,
  infoByte := by kernel_rfl,
  cellsByte := by kernel_rfl,
  sizeByte := by kernel_rfl,
  neB5 := by decide }
end Go.Proofs.YtjinnigjfopbcaaGreatDoor
