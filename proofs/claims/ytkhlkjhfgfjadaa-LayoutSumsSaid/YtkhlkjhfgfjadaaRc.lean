/- internal/stringslite.Clone: the library's contract laid over this program. -/
import Derived.Shelf.Strconv.Clone
import Derived.Test.YtkhlkjhfgfjadaaRows
namespace Go.Proofs.Ytkhlkjhfgfjadaa
open Go.RowKit Go.Shelf
set_option linter.unusedVariables false
def cloL_ren : Go.Shelf.Ren := ⟨fun | 316 => 45 | n => n, fun | 9 => 9 | 3 => 3 | 4 => 4 | 37 => 60 | 0 => 0 | 127 => 82 | 5 => 5 | n => n, fun | n => n⟩
theorem cloL : Go.Proofs.LaysM.n316 Try.prog cloL_ren := {
  mixed := by kernel_rfl,
  f316 := Try.func45.trans (congrArg some (by kernel_rfl)),
  t0 := Try.underlying0,
  a0 := Try.isAgg0,
  z0 := Try.sizeOf0,
  v0 := Try.zeroValue0,
  t3 := Try.underlying3,
  a3 := Try.isAgg3,
  z3 := Try.sizeOf3,
  v3 := Try.zeroValue3,
  t4 := Try.underlying4,
  a4 := Try.isAgg4,
  z4 := Try.sizeOf4,
  v4 := Try.zeroValue4,
  t9 := Try.underlying9,
  a9 := Try.isAgg9,
  z9 := Try.sizeOf9,
  v9 := Try.zeroValue9,
  t37 := Try.underlying60,
  a37 := Try.isAgg60,
  z37 := Try.sizeOf60,
  v37 := Try.zeroValue60,
  t127 := Try.underlying82,
  a127 := Try.isAgg82,
  z127 := Try.sizeOf82,
  v127 := Try.zeroValue82,
  t5 := Try.underlying5,
  a5 := Try.isAgg5,
  z5 := Try.sizeOf5,
  v5 := Try.zeroValue5,
  i0 := by kernel_rfl,
  i3 := by kernel_rfl,
  i4 := by kernel_rfl,
  i5 := by kernel_rfl,
  i9 := by kernel_rfl,
  i37 := by kernel_rfl,
  i127 := by kernel_rfl }
theorem clo_any (s : ByteArray) (w : World) (hs : s.size ≤ 281474976710656) : Calls Try.prog 45 #[.string s] w fun e w' => e = .returned (.string s) ∧ Below w.heap.size w w' := Any.stringslite_Clone cloL s w hs
end Go.Proofs.Ytkhlkjhfgfjadaa
