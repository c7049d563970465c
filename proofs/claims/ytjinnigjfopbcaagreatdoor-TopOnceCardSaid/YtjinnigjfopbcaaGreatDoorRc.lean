/- internal/stringslite.Clone: the library's contract laid over this program. -/
import Derived.Shelf.Strconv.Clone
import Derived.Test.YtjinnigjfopbcaaGreatDoorRows
namespace Go.Proofs.YtjinnigjfopbcaaGreatDoor
open Go.RowKit Go.Shelf
set_option linter.unusedVariables false
def cloL_ren : Go.Shelf.Ren := ⟨fun | 316 => 194 | n => n, fun | 9 => 9 | 3 => 3 | 4 => 4 | 37 => 23 | 0 => 0 | 127 => 341 | 5 => 5 | n => n, fun | n => n⟩
theorem cloL : Go.Proofs.LaysM.n316 Tryz.prog cloL_ren := {
  mixed := by kernel_rfl,
  f316 := Tryz.func194.trans (congrArg some (by kernel_rfl)),
  t0 := Tryz.underlying0,
  a0 := Tryz.isAgg0,
  z0 := Tryz.sizeOf0,
  v0 := Tryz.zeroValue0,
  t3 := Tryz.underlying3,
  a3 := Tryz.isAgg3,
  z3 := Tryz.sizeOf3,
  v3 := Tryz.zeroValue3,
  t4 := Tryz.underlying4,
  a4 := Tryz.isAgg4,
  z4 := Tryz.sizeOf4,
  v4 := Tryz.zeroValue4,
  t9 := Tryz.underlying9,
  a9 := Tryz.isAgg9,
  z9 := Tryz.sizeOf9,
  v9 := Tryz.zeroValue9,
  t37 := Tryz.underlying23,
  a37 := Tryz.isAgg23,
  z37 := Tryz.sizeOf23,
  v37 := Tryz.zeroValue23,
  t127 := Tryz.underlying341,
  a127 := Tryz.isAgg341,
  z127 := Tryz.sizeOf341,
  v127 := Tryz.zeroValue341,
  t5 := Tryz.underlying5,
  a5 := Tryz.isAgg5,
  z5 := Tryz.sizeOf5,
  v5 := Tryz.zeroValue5,
  i0 := by kernel_rfl,
  i3 := by kernel_rfl,
  i4 := by kernel_rfl,
  i5 := by kernel_rfl,
  i9 := by kernel_rfl,
  i37 := by kernel_rfl,
  i127 := by kernel_rfl }
theorem clo_any (s : ByteArray) (w : World) (hs : s.size ≤ 281474976710656) : Calls Tryz.prog 194 #[.string s] w fun e w' => e = .returned (.string s) ∧ Below w.heap.size w w' := Any.stringslite_Clone cloL s w hs
end Go.Proofs.YtjinnigjfopbcaaGreatDoor
