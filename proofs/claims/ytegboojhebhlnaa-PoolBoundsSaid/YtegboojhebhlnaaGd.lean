/- Contracts of the pool's small functions: is, against, bucketOf, end. -/
import Derived.Test.YtegboojhebhlnaaGc
import Derived.Test.YtegboojhebhlnaaFc
import Derived.Handy
namespace Go.Proofs.Ytegboojhebhlnaa
open Go.RowKit
set_option linter.unusedVariables false
set_option linter.unusedSimpArgs false
theorem nan_any (x : Int) (w : World) : Calls Try.prog 47 #[.int .u64 x] w fun e w' => e = .returned (.bool false) ∧ w' = w := by
  go_enter Try.func47, Try.ntmps47
  go_wp2
  go_ret
  exact ⟨rfl, rfl⟩
def cmpI (x y : Int) : Int := if x < y then -1 else if x > y then 1 else 0
set_option maxHeartbeats 1000000 in
theorem compare_any (x y : Int) (w : World) : Calls Try.prog 39 #[.int .u64 x, .int .u64 y] w fun e w' => e = .returned (.int .i64 (cmpI x y)) ∧ w' = w := by
  have HN := Lib.hid (fun a W => nan_any a W)
  unfold cmpI
  by_cases h : x < y
  · rw [if_pos h]
    go_enter Try.func39, Try.ntmps39
    go_wp2_with fail
    refine (HN.out _ _).mono ?_
    rintro e w1 ⟨rfl, rfl⟩
    go_wp2_with fail
    refine (HN.out _ _).mono ?_
    rintro e w1 ⟨rfl, rfl⟩
    go_wp2_with fail
    go_ret
    exact ⟨rfl, rfl⟩
  · rw [if_neg h]
    by_cases h2 : x > y
    · rw [if_pos h2]
      go_enter Try.func39, Try.ntmps39
      go_wp2_with fail
      refine (HN.out _ _).mono ?_
      rintro e w1 ⟨rfl, rfl⟩
      go_wp2_with fail
      refine (HN.out _ _).mono ?_
      rintro e w1 ⟨rfl, rfl⟩
      go_wp2_with fail
      go_ret
      exact ⟨rfl, rfl⟩
    · rw [if_neg h2]
      go_enter Try.func39, Try.ntmps39
      go_wp2_with fail
      refine (HN.out _ _).mono ?_
      rintro e w1 ⟨rfl, rfl⟩
      go_wp2_with fail
      refine (HN.out _ _).mono ?_
      rintro e w1 ⟨rfl, rfl⟩
      go_wp2_with fail
      go_ret
      exact ⟨rfl, rfl⟩
theorem against_any (t : Kt) (y : Int) (w : World) : Calls Try.prog 26 #[.agg #[.int .u64 t.1, .int .u32 t.2.size, .string t.2], .int .u64 y] w fun e w' => e = .returned (.int .i64 (cmpI t.1 y)) ∧ Below w.heap.size w w' := by
  have HC := Lib.hid (fun W => compare_any t.1 y W)
  go_enter Try.func26, Try.ntmps26
  go_wp2_with fail
  refine (HC.out _).mono ?_
  rintro e w1 ⟨rfl, rfl⟩
  go_wp2_with fail
  go_ret
  exact ⟨rfl, by go_grown⟩
theorem is_any (s : ByteArray) (t : Kt) (w : World) : Calls Try.prog 36 #[.string s, .agg #[.int .u64 t.1, .int .u32 t.2.size, .string t.2]] w fun e w' => e = .returned (.bool (decide (t.2 = s))) ∧ Below w.heap.size w w' := by
  by_cases h : t.2 = s
  · have hd := str_yes h
    rw [decide_eq_true h]
    go_enter Try.func36, Try.ntmps36
    go_wp2_with fail
    go_ret
    exact ⟨rfl, by go_grown⟩
  · have hd := str_no h
    rw [decide_eq_false h]
    go_enter Try.func36, Try.ntmps36
    go_wp2_with fail
    go_ret
    exact ⟨rfl, by go_grown⟩
theorem bucketOf_any (s : ByteArray) (hs : s.size ≤ maxLen) (w : World) : Calls Try.prog 22 #[.string s] w fun e w' => e = .returned (.int .i64 (bkt s)) ∧ Below w.heap.size w w' := by
  have HB := Lib.hid (fun W => bucket_any s hs 2048 (by omega) (by omega) W)
  go_enter Try.func22, Try.ntmps22
  go_wp2_with fail
  refine (HB.out _).mono ?_
  rintro e w1 ⟨rfl, hb⟩
  have HBl := Lib.hid hb
  clear hb
  go_wp2_with fail
  go_ret
  exact ⟨rfl, HBl.out⟩
set_option maxHeartbeats 1000000 in
theorem end_any (w : World) (pb : Nat) (va vm : Value) (G : Int → Value) (l : List ByteArray) (h : PoolAt w pb va vm G l) : Calls Try.prog 28 #[.pointer (some ⟨pb, 0, none⟩)] w fun e w' => e = .returned (.int .u64 (totF l)) ∧ Below w.heap.size w w' := by
  obtain ⟨c0, c1, _, _⟩ := h.two
  obtain ⟨al, cap, rfl, hcap, hmx, hc⟩ := h.all.ktsAt
  rw [plc_len] at *
  rcases List.eq_nil_or_concat l with rfl | ⟨l', s, rfl⟩
  · clear hc
    go_enter Try.func28, Try.ntmps28
    go_wp2_with fail
    go_ret
    exact ⟨rfl, Below.refl _ _⟩
  · rw [List.concat_eq_append] at *
    have hk : (plc (l' ++ [s]) 0)[l'.length]? = some (totF l', s) := by
      rw [plc_snoc, List.getElem?_append_right (by rw [plc_len]; exact Nat.le_refl _), plc_len]; simp
    obtain ⟨g, off, rfl, hg, d0, d1, d2⟩ := hc _ _ hk
    have HT := Lib.hid h.good.tot
    have hlen : (l' ++ [s]).length = l'.length + 1 := by simp
    have ht : totF (l' ++ [s]) = totF l' + s.size := by rw [totF_append, totF_one]
    have hlb := h.good.few
    rw [hlen] at *
    have hw1 : IntKind.i64.wrap (l'.length : Int) = (l'.length : Int) := by rw [IntKind.wrap_i64] <;> omega
    have hi : ((l'.length : Nat) : Int) < ((l'.length : Nat) : Int) + 1 := by omega
    have hi2 : (0 : Int) ≤ ((l'.length : Nat) : Int) := by omega
    dsimp only at d0 d1 d2
    have k0 : ∀ O, (w.alloc O).cell? ⟨pb, 0, none⟩ = _ := fun O => vcell_later ((Below.refl _ _).alloc (Nat.le_refl _) O) c0
    have k1 : ∀ O, (w.alloc O).cell? ⟨g, off + l'.length * 3, none⟩ = _ := fun O => vcell_later ((Below.refl _ _).alloc (Nat.le_refl _) O) d0
    have k2 : ∀ O, (w.alloc O).cell? ⟨g, off + l'.length * 3 + 1, none⟩ = _ := fun O => vcell_later ((Below.refl _ _).alloc (Nat.le_refl _) O) d1
    clear hc hk h
    go_enter Try.func28, Try.ntmps28
    go_wp2_with fail
    go_region
    all_goals
      go_wp2_with fail
      go_ret
      refine ⟨ret_int ?_, by go_grown⟩
      rw [ht]
      have := HT.out
      rw [ht] at this
      simp only [IntKind.wrap_u64]
      omega
end Go.Proofs.Ytegboojhebhlnaa
