/- What the program's functions answer: at a pool, and at nil. -/
import Derived.Test.YtegboojhebhlnaaGk
import Derived.Test.YtegboojhebhlnaaGg
import Derived.Test.YtegboojhebhlnaaGt
import Derived.Test.YtegboojhebhlnaaGy
namespace Go.Proofs.Ytegboojhebhlnaa
open Go.RowKit
set_option linter.unusedVariables false
set_option linter.unusedSimpArgs false
theorem add_any (v : Value) (l : List ByteArray) (S : Nat → Prop) (s : ByteArray) (w : World) (h : PoolS w v l S) (hs : s.size ≤ maxLen) :
    Calls Try.prog 11 #[v, .string s] w fun e w' => e = .returned (.tuple #[.agg #[.int .u64 (offA l s : Nat), .int .u32 (lenA l s : Nat)], .bool (isNew l s), .int .i64 (eV l s : Nat)]) ∧ ∃ S', PoolS w' v (newL l s) S' ∧ Kept S S' w w' := by
  refine (addR_any v l S s w h hs).mono ?_
  rintro e w' ⟨rfl, h⟩
  exact ⟨rfl, h⟩
theorem add_nil (s : ByteArray) (w : World) : Calls Try.prog 11 #[.pointer none, .string s] w fun e w' => e = .returned (.tuple #[.agg #[.int .u64 0, .int .u32 0], .bool false, .int .i64 1]) ∧ Below w.heap.size w w' := by
  have hb := below_one w (.cells #[.int .u64 0, .int .u32 0] 31)
  have ht := two_new w (.int .u64 0) (.int .u32 0) 31
  go_enter Try.func11, Try.ntmps11
  go_wp2_with fail
  refine bodyPost_ret (results_ct3 rfl _ _ w.heap.size _ _ _ _ _ rfl rfl rfl ht.1 ht.2.1 Try.underlying31 rfl pct_size) rfl ⟨rfl, hb⟩
theorem find_nil (s : ByteArray) (w : World) : Calls Try.prog 13 #[.pointer none, .string s] w fun e w' => e = .returned (.tuple #[.agg #[.int .u64 0, .int .u32 0], .bool false]) ∧ Below w.heap.size w w' := by
  have hb := below_one w (.cells #[.int .u64 0, .int .u32 0] 31)
  have ht := two_new w (.int .u64 0) (.int .u32 0) 31
  go_enter Try.func13, Try.ntmps13
  go_wp2_with fail
  refine bodyPost_ret (results_ct rfl _ _ w.heap.size _ _ _ _ rfl rfl ht.1 ht.2.1 Try.underlying31 rfl pct_size) rfl ⟨rfl, hb⟩
theorem get_nil (a b : Int) (w : World) : Calls Try.prog 16 #[.pointer none, .agg #[.int .u64 a, .int .u32 b]] w fun e w' => e = .returned (.tuple #[.string { data := #[] }, .bool false]) ∧ Below w.heap.size w w' := by
  go_enter Try.func16, Try.ntmps16
  go_wp2_with fail
  go_ret2
  exact ⟨rfl, by go_grown⟩
theorem len_nil (w : World) : Calls Try.prog 15 #[.pointer none] w fun e w' => e = .returned (.int .i64 0) ∧ Below w.heap.size w w' := by
  go_enter Try.func15, Try.ntmps15
  go_wp2_with fail
  go_ret
  exact ⟨rfl, Below.refl _ _⟩
theorem text_nil (w : World) : Calls Try.prog 18 #[.pointer none] w fun e w' => e = .returned (.string { data := #[] }) ∧ Below w.heap.size w w' := by
  go_enter Try.func18, Try.ntmps18
  go_wp2_with fail
  go_ret
  exact ⟨rfl, Below.refl _ _⟩
theorem fork_nil (w : World) : Calls Try.prog 21 #[.pointer none] w fun e w' => e = .returned (.pointer none) ∧ Below w.heap.size w w' := by
  go_enter Try.func21, Try.ntmps21
  go_wp2_with fail
  go_ret
  exact ⟨rfl, Below.refl _ _⟩
end Go.Proofs.Ytegboojhebhlnaa
