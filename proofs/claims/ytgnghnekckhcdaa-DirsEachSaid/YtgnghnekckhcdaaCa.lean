/- The program's numbers of an entry in a row: step, run, length, behind, mark. -/
import Derived.Test.YtgnghnekckhcdaaME
import Derived.Test.YtgnghnekckhcdaaMG
import Derived.BigQuiet
namespace Go.Proofs.Ytgnghnekckhcdaa
open Go.RowKit
set_option linter.unusedVariables false
set_option linter.unusedSimpArgs false
theorem gE_at' {l : List En} {k : Nat} {e : En} (h : l[k]? = some e) : gE l k = e := by
  unfold gE; rw [List.getD_eq_getElem?_getD, h]; rfl
theorem wrapU (x : Int) : IntKind.u64.wrap x = x % 18446744073709551616 := by
  simp [IntKind.wrap, IntKind.bits, IntKind.signed]
/-- The cells of the i-th entry. -/
theorem ens_cells {w : World} {v : Value} {l : List En} (hv : EnsAt w v l) (i : Nat) (hi : i < l.length) : ∃ g off cap, v = .slice (some ⟨g, off, none⟩) l.length cap ∧ g < w.heap.size ∧ l.length ≤ 9223372036854775807 ∧
    ∀ k, k < l.length → w.cell? ⟨g, off + k * 4, none⟩ = some (.int .u64 (gE l k).id) ∧ w.cell? ⟨g, off + k * 4 + 1, none⟩ = some (.int .u64 (gE l k).off) ∧ w.cell? ⟨g, off + k * 4 + 2, none⟩ = some (.int .u32 (gE l k).ln) ∧ w.cell? ⟨g, off + k * 4 + 3, none⟩ = some (.int .u32 (gE l k).rn) := by
  obtain ⟨a, cap, rfl, h1, h2, hc⟩ := hv
  obtain ⟨g, off, rfl, hg, _⟩ := hc i _ (List.getElem?_eq_getElem hi)
  refine ⟨g, off, cap, rfl, hg, by unfold maxLen at h2; omega, fun k hk => ?_⟩
  have hk' := List.getElem?_eq_getElem hk
  obtain ⟨g', off', ha, _, c⟩ := hc k _ hk'
  obtain ⟨rfl, rfl⟩ : g = g' ∧ off = off' := by simpa using ha
  rw [gE_at' hk']
  exact c
theorem prunN_any (v : Value) (l : List En) (w : World) (i : Nat) (hv : EnsAt w v l) (hm : MaysN l) (hi : i < l.length) : Calls Try.prog 51 #[v, .int .i64 (i : Int)] w fun x w' => x = .returned (.int .u64 (colN l 1 i)) ∧ Below w.heap.size w w' := by
  obtain ⟨g, off, cap, rfl, hg, hml, hc⟩ := ens_cells hv i hi
  obtain ⟨c0, c1, c2, c3⟩ := hc i hi
  have hme := hm _ (gE_mem l i hi)
  have hi2 : (i : Int) < (l.length : Int) := by omega
  obtain ⟨_, _, _, m3, _⟩ := hme
  have hw : IntKind.u64.wrap (gE l i).rn = (gE l i).rn := by rw [IntKind.wrap_u64] <;> omega
  rw [col1]
  clear hc hm hv
  go_enter Try.func51, Try.ntmps51
  go_wp2_with fail
  go_ret
  exact ⟨rfl, Below.refl _ _⟩
theorem plenN_any (v : Value) (l : List En) (w : World) (i : Nat) (hv : EnsAt w v l) (hm : MaysN l) (hi : i < l.length) : Calls Try.prog 52 #[v, .int .i64 (i : Int)] w fun x w' => x = .returned (.int .u64 (colN l 2 i)) ∧ Below w.heap.size w w' := by
  obtain ⟨g, off, cap, rfl, hg, hml, hc⟩ := ens_cells hv i hi
  obtain ⟨c0, c1, c2, c3⟩ := hc i hi
  have hme := hm _ (gE_mem l i hi)
  have hi2 : (i : Int) < (l.length : Int) := by omega
  obtain ⟨_, _, m2, m3, _⟩ := hme
  have hw : IntKind.u64.wrap (gE l i).ln = (gE l i).ln := by rw [IntKind.wrap_u64] <;> omega
  rw [col2]
  clear hc hm hv
  go_enter Try.func52, Try.ntmps52
  go_wp2_with fail
  go_ret
  exact ⟨rfl, Below.refl _ _⟩
theorem pstep_any (v : Value) (l : List En) (w : World) (i : Nat) (hv : EnsAt w v l) (hm : MaysN l) (hi : i < l.length) : Calls Try.prog 50 #[v, .int .i64 (i : Int)] w fun x w' => x = .returned (.int .u64 (colN l 0 i)) ∧ Below w.heap.size w w' := by
  obtain ⟨g, off, cap, rfl, hg, hml, hc⟩ := ens_cells hv i hi
  obtain ⟨c0, c1, c2, c3⟩ := hc i hi
  have hi2 : (i : Int) < (l.length : Int) := by omega
  rw [col0]
  by_cases hz : i = 0
  · subst hz
    rw [if_pos rfl]
    have hz0 : (((0 : Nat) : Int) == 0) = true := rfl
    rw [Nat.zero_mul, Nat.add_zero] at c0
    clear hm hv
    clear hc
    go_enter Try.func50, Try.ntmps50
    go_wp2_with fail
    go_ret
    exact ⟨rfl, Below.refl _ _⟩
  · obtain ⟨j, rfl⟩ : ∃ j, i = j + 1 := ⟨i - 1, by omega⟩
    rw [if_neg hz, Nat.add_sub_cancel]
    obtain ⟨d0, _, _, _⟩ := hc j (by omega)
    have hij : ((j + 1 : Nat) : Int) - 1 = (j : Int) := by omega
    have hwj : IntKind.i64.wrap (j : Int) = (j : Int) := by rw [IntKind.wrap_i64] <;> omega
    have hj2 : (j : Int) < (l.length : Int) := by omega
    have hne : (((j + 1 : Nat) : Int) == 0) = false := by simp; omega
    generalize hi' : j + 1 = i at *
    have HW := Lib.hid (wrapU ((gE l i).id - (gE l j).id))
    generalize (gE l i).id = x at *
    generalize (gE l j).id = y at *
    clear hc hm hv hi' c1 c2 c3 hi hz
    go_enter Try.func50, Try.ntmps50
    go_wp2_with fail
    go_quiet (fail)
    go_wp2_with fail
    go_ret
    exact ⟨rfl, rfl, rfl, rfl, Nat.le_refl _, fun _ _ => rfl⟩
theorem pbehN_any (v : Value) (l : List En) (w : World) (j : Nat) (hv : EnsAt w v l) (hm : MaysN l) (hi : j < l.length) (i : Nat) (hij' : i = j + 1) (hil : i ≤ 9223372036854775807) : Calls Try.prog 61 #[v, .int .i64 (i : Int)] w fun x w' => x = .returned (.int .u64 (nxE l j)) ∧ Below w.heap.size w w' := by
  obtain ⟨g, off, cap, rfl, hg, hml, hc⟩ := ens_cells hv j hi
  obtain ⟨d0, d1, d2, d3⟩ := hc j (by omega)
  have hij : (i : Int) - 1 = (j : Int) := by omega
  have hwj : IntKind.i64.wrap (j : Int) = (j : Int) := by rw [IntKind.wrap_i64] <;> omega
  have hj2 : (j : Int) < (l.length : Int) := by omega
  have hme := hm _ (gE_mem l j hi)
  obtain ⟨_, _, m2, m3, _⟩ := hme
  have hw : IntKind.u64.wrap (gE l j).ln = (gE l j).ln := by rw [IntKind.wrap_u64] <;> omega
  have HW := Lib.hid (wrapU ((gE l j).off + (gE l j).ln))
  unfold nxE
  generalize (gE l j).off = x at *
  generalize (gE l j).ln = y at *
  clear hc hm hv hij' hi d0 d3 m2 m3
  go_enter Try.func61, Try.ntmps61
  go_wp2_with fail
  go_quiet (fail)
  go_wp2_with fail
  go_ret
  exact ⟨rfl, rfl, rfl, rfl, Nat.le_refl _, fun _ _ => rfl⟩
end Go.Proofs.Ytgnghnekckhcdaa
