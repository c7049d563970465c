/- The document's Rune. -/
import Derived.Test.YtcpofeebfckmhaaJf
import Derived.Deep.RegionHeld3
import Derived.LoopN
namespace Go.Proofs.Ytcpofeebfckmhaa
open Go.RowKit
set_option maxRecDepth 20000
set_option linter.unusedVariables false
set_option linter.unusedSimpArgs false
theorem keep_be {w w' w1 : World} (hb : Below w'.heap.size w' w1) (h : Below w.heap.size w w') : Below w.heap.size w w1 := h.trans (hb.mono h.size)
theorem str_yes {a b : ByteArray} (h : a = b) : (a.toList == b.toList) = true := by rw [h]; simp
theorem str_no {a b : ByteArray} (h : ¬ a = b) : (a.toList == b.toList) = false := by
  rw [ByteArray.toList_eq, ByteArray.toList_eq, beq_eq_false_iff_ne]
  intro e
  exact h (ByteArray.ext (Array.toList_inj.1 e))
theorem str_is {a : List Int} {s : ByteArray} {n : Nat} (ha : ∀ x ∈ a, 0 ≤ x ∧ x < 256) : str a = s.extract 0 n ↔ a = (bI s).take n := by
  have e : bI (s.extract 0 n) = (bI s).take n := by rw [bI_extract _ _ _ (Nat.zero_le _), List.drop_zero, Nat.sub_zero]
  constructor
  · intro h; rw [← e, ← h, bI_str a ha]
  · intro h; apply bI_inj; rw [bI_str a ha, e]; exact h
theorem test_yes {c : Int} {s : ByteArray} {n : Nat} (h : encC c = (bI s).take n) : ((str (encC c)).toList == (s.extract 0 n).toList) = true := str_yes ((str_is (encC_byte c)).2 h)
theorem test_no {c : Int} {s : ByteArray} {n : Nat} (h : ¬ encC c = (bI s).take n) : ((str (encC c)).toList == (s.extract 0 n).toList) = false := str_no (fun e => h ((str_is (encC_byte c)).1 e))
theorem ext_is {c : Int} {s : ByteArray} {n : Nat} (h : encC c = (bI s).take n) : s.extract 0 n = str (encC c) := ((str_is (encC_byte c)).2 h).symm
set_option maxHeartbeats 2000000 in
theorem rrune_yes1 (s : ByteArray) (w : World) (hs : s.size ≤ 1000000) (hl : 1 ≤ s.size) (b0 : Int) (e0 : ((s[0]'(by omega)).toNat : Int) = b0) (h0 : 0 ≤ b0 ∧ b0 < 256) (t1 : ((str (encC b0)).toList == (s.extract 0 1).toList) = true) :
    Calls Try.prog 19 #[.string s] w fun e w' => e = .returned (.string (s.extract 0 1)) ∧ Below w.heap.size w w' := by
  have HBY := Lib.hid (fun c w h => rbytes_any c w h)
  have HB : Hid (Below w.heap.size w w) := Lib.hid (Below.refl _ _)
  go_enter Try.func19, Try.ntmps19
  go_wp2_with fail
  refine wp_loop_rounds 5 ?_
  rw [rounds_succ]
  go_wp2_with fail
  refine wp_loop_rounds 1 ?_
  rw [rounds_succ]
  go_wp2_with fail
  have hk0 := Below.drew HB.out
  go_region_held3 (fun w' => Below w.heap.size w w') (first | exact hk0 | exact keep_be hk (by assumption)) (first | (go_at_call 26; refine (HBY.out b0 _ (by omega)).mono ?_; rintro e w' ⟨rfl, hk⟩))
  rename_i hHeld
  clear hk0 HB
  have HB := Lib.hid hHeld
  clear hHeld
  generalize w' = v1 at *
  go_wp2_with fail
  go_ret
  exact ⟨rfl, HB.out⟩
set_option maxHeartbeats 2000000 in
theorem rrune_yes2 (s : ByteArray) (w : World) (hs : s.size ≤ 1000000) (hl : 2 ≤ s.size) (b0 : Int) (e0 : ((s[0]'(by omega)).toNat : Int) = b0) (h0 : 0 ≤ b0 ∧ b0 < 256) (b1 : Int) (e1 : ((s[1]'(by omega)).toNat : Int) = b1) (h1 : 0 ≤ b1 ∧ b1 < 256) (t1 : ((str (encC b0)).toList == (s.extract 0 1).toList) = false) (t2 : ((str (encC (64 * (b0 % 32) + b1 % 64))).toList == (s.extract 0 2).toList) = true) :
    Calls Try.prog 19 #[.string s] w fun e w' => e = .returned (.string (s.extract 0 2)) ∧ Below w.heap.size w w' := by
  have HBY := Lib.hid (fun c w h => rbytes_any c w h)
  have HB : Hid (Below w.heap.size w w) := Lib.hid (Below.refl _ _)
  go_enter Try.func19, Try.ntmps19
  go_wp2_with fail
  refine wp_loop_rounds 5 ?_
  rw [rounds_succ]
  go_wp2_with fail
  refine wp_loop_rounds 1 ?_
  rw [rounds_succ]
  go_wp2_with fail
  have hk0 := Below.drew HB.out
  go_region_held3 (fun w' => Below w.heap.size w w') (first | exact hk0 | exact keep_be hk (by assumption)) (first | (go_at_call 26; refine (HBY.out b0 _ (by omega)).mono ?_; rintro e w' ⟨rfl, hk⟩))
  rename_i hHeld
  clear hk0 HB
  have HB := Lib.hid hHeld
  clear hHeld
  generalize w' = v1 at *
  go_wp2_with fail
  rw [rounds_succ]
  go_wp2_with fail
  refine wp_loop_rounds 2 ?_
  rw [rounds_succ]
  go_wp2_with fail
  rw [rounds_succ]
  go_wp2_with fail
  have hk0 := Below.drew HB.out
  go_region_held3 (fun w' => Below w.heap.size w w') (first | exact hk0 | exact keep_be hk (by assumption)) (first | (go_at_call 26; refine (HBY.out (64 * (b0 % 32) + b1 % 64) _ (by omega)).mono ?_; rintro e w' ⟨rfl, hk⟩))
  rename_i hHeld
  clear hk0 HB
  have HB := Lib.hid hHeld
  clear hHeld
  generalize w' = v2 at *
  go_wp2_with fail
  go_ret
  exact ⟨rfl, HB.out⟩
set_option maxHeartbeats 2000000 in
theorem rrune_yes3 (s : ByteArray) (w : World) (hs : s.size ≤ 1000000) (hl : 3 ≤ s.size) (b0 : Int) (e0 : ((s[0]'(by omega)).toNat : Int) = b0) (h0 : 0 ≤ b0 ∧ b0 < 256) (b1 : Int) (e1 : ((s[1]'(by omega)).toNat : Int) = b1) (h1 : 0 ≤ b1 ∧ b1 < 256) (b2 : Int) (e2 : ((s[2]'(by omega)).toNat : Int) = b2) (h2 : 0 ≤ b2 ∧ b2 < 256) (t1 : ((str (encC b0)).toList == (s.extract 0 1).toList) = false) (t2 : ((str (encC (64 * (b0 % 32) + b1 % 64))).toList == (s.extract 0 2).toList) = false) (t3 : ((str (encC (64 * (64 * (b0 % 16) + b1 % 64) + b2 % 64))).toList == (s.extract 0 3).toList) = true) :
    Calls Try.prog 19 #[.string s] w fun e w' => e = .returned (.string (s.extract 0 3)) ∧ Below w.heap.size w w' := by
  have HBY := Lib.hid (fun c w h => rbytes_any c w h)
  have HB : Hid (Below w.heap.size w w) := Lib.hid (Below.refl _ _)
  go_enter Try.func19, Try.ntmps19
  go_wp2_with fail
  refine wp_loop_rounds 5 ?_
  rw [rounds_succ]
  go_wp2_with fail
  refine wp_loop_rounds 1 ?_
  rw [rounds_succ]
  go_wp2_with fail
  have hk0 := Below.drew HB.out
  go_region_held3 (fun w' => Below w.heap.size w w') (first | exact hk0 | exact keep_be hk (by assumption)) (first | (go_at_call 26; refine (HBY.out b0 _ (by omega)).mono ?_; rintro e w' ⟨rfl, hk⟩))
  rename_i hHeld
  clear hk0 HB
  have HB := Lib.hid hHeld
  clear hHeld
  generalize w' = v1 at *
  go_wp2_with fail
  rw [rounds_succ]
  go_wp2_with fail
  refine wp_loop_rounds 2 ?_
  rw [rounds_succ]
  go_wp2_with fail
  rw [rounds_succ]
  go_wp2_with fail
  have hk0 := Below.drew HB.out
  go_region_held3 (fun w' => Below w.heap.size w w') (first | exact hk0 | exact keep_be hk (by assumption)) (first | (go_at_call 26; refine (HBY.out (64 * (b0 % 32) + b1 % 64) _ (by omega)).mono ?_; rintro e w' ⟨rfl, hk⟩))
  rename_i hHeld
  clear hk0 HB
  have HB := Lib.hid hHeld
  clear hHeld
  generalize w' = v2 at *
  go_wp2_with fail
  rw [rounds_succ]
  go_wp2_with fail
  refine wp_loop_rounds 3 ?_
  rw [rounds_succ]
  go_wp2_with fail
  rw [rounds_succ]
  go_wp2_with fail
  rw [rounds_succ]
  go_wp2_with fail
  have hk0 := Below.drew HB.out
  go_region_held3 (fun w' => Below w.heap.size w w') (first | exact hk0 | exact keep_be hk (by assumption)) (first | (go_at_call 26; refine (HBY.out (64 * (64 * (b0 % 16) + b1 % 64) + b2 % 64) _ (by omega)).mono ?_; rintro e w' ⟨rfl, hk⟩))
  rename_i hHeld
  clear hk0 HB
  have HB := Lib.hid hHeld
  clear hHeld
  generalize w' = v3 at *
  go_wp2_with fail
  go_ret
  exact ⟨rfl, HB.out⟩
set_option maxHeartbeats 2000000 in
theorem rrune_yes4 (s : ByteArray) (w : World) (hs : s.size ≤ 1000000) (hl : 4 ≤ s.size) (b0 : Int) (e0 : ((s[0]'(by omega)).toNat : Int) = b0) (h0 : 0 ≤ b0 ∧ b0 < 256) (b1 : Int) (e1 : ((s[1]'(by omega)).toNat : Int) = b1) (h1 : 0 ≤ b1 ∧ b1 < 256) (b2 : Int) (e2 : ((s[2]'(by omega)).toNat : Int) = b2) (h2 : 0 ≤ b2 ∧ b2 < 256) (b3 : Int) (e3 : ((s[3]'(by omega)).toNat : Int) = b3) (h3 : 0 ≤ b3 ∧ b3 < 256) (t1 : ((str (encC b0)).toList == (s.extract 0 1).toList) = false) (t2 : ((str (encC (64 * (b0 % 32) + b1 % 64))).toList == (s.extract 0 2).toList) = false) (t3 : ((str (encC (64 * (64 * (b0 % 16) + b1 % 64) + b2 % 64))).toList == (s.extract 0 3).toList) = false) (t4 : ((str (encC (64 * (64 * (64 * (b0 % 8) + b1 % 64) + b2 % 64) + b3 % 64))).toList == (s.extract 0 4).toList) = true) :
    Calls Try.prog 19 #[.string s] w fun e w' => e = .returned (.string (s.extract 0 4)) ∧ Below w.heap.size w w' := by
  have HBY := Lib.hid (fun c w h => rbytes_any c w h)
  have HB : Hid (Below w.heap.size w w) := Lib.hid (Below.refl _ _)
  go_enter Try.func19, Try.ntmps19
  go_wp2_with fail
  refine wp_loop_rounds 5 ?_
  rw [rounds_succ]
  go_wp2_with fail
  refine wp_loop_rounds 1 ?_
  rw [rounds_succ]
  go_wp2_with fail
  have hk0 := Below.drew HB.out
  go_region_held3 (fun w' => Below w.heap.size w w') (first | exact hk0 | exact keep_be hk (by assumption)) (first | (go_at_call 26; refine (HBY.out b0 _ (by omega)).mono ?_; rintro e w' ⟨rfl, hk⟩))
  rename_i hHeld
  clear hk0 HB
  have HB := Lib.hid hHeld
  clear hHeld
  generalize w' = v1 at *
  go_wp2_with fail
  rw [rounds_succ]
  go_wp2_with fail
  refine wp_loop_rounds 2 ?_
  rw [rounds_succ]
  go_wp2_with fail
  rw [rounds_succ]
  go_wp2_with fail
  have hk0 := Below.drew HB.out
  go_region_held3 (fun w' => Below w.heap.size w w') (first | exact hk0 | exact keep_be hk (by assumption)) (first | (go_at_call 26; refine (HBY.out (64 * (b0 % 32) + b1 % 64) _ (by omega)).mono ?_; rintro e w' ⟨rfl, hk⟩))
  rename_i hHeld
  clear hk0 HB
  have HB := Lib.hid hHeld
  clear hHeld
  generalize w' = v2 at *
  go_wp2_with fail
  rw [rounds_succ]
  go_wp2_with fail
  refine wp_loop_rounds 3 ?_
  rw [rounds_succ]
  go_wp2_with fail
  rw [rounds_succ]
  go_wp2_with fail
  rw [rounds_succ]
  go_wp2_with fail
  have hk0 := Below.drew HB.out
  go_region_held3 (fun w' => Below w.heap.size w w') (first | exact hk0 | exact keep_be hk (by assumption)) (first | (go_at_call 26; refine (HBY.out (64 * (64 * (b0 % 16) + b1 % 64) + b2 % 64) _ (by omega)).mono ?_; rintro e w' ⟨rfl, hk⟩))
  rename_i hHeld
  clear hk0 HB
  have HB := Lib.hid hHeld
  clear hHeld
  generalize w' = v3 at *
  go_wp2_with fail
  rw [rounds_succ]
  go_wp2_with fail
  refine wp_loop_rounds 4 ?_
  rw [rounds_succ]
  go_wp2_with fail
  rw [rounds_succ]
  go_wp2_with fail
  rw [rounds_succ]
  go_wp2_with fail
  rw [rounds_succ]
  go_wp2_with fail
  have hk0 := Below.drew HB.out
  go_region_held3 (fun w' => Below w.heap.size w w') (first | exact hk0 | exact keep_be hk (by assumption)) (first | (go_at_call 26; refine (HBY.out (64 * (64 * (64 * (b0 % 8) + b1 % 64) + b2 % 64) + b3 % 64) _ (by omega)).mono ?_; rintro e w' ⟨rfl, hk⟩))
  rename_i hHeld
  clear hk0 HB
  have HB := Lib.hid hHeld
  clear hHeld
  generalize w' = v4 at *
  go_wp2_with fail
  go_ret
  exact ⟨rfl, HB.out⟩
set_option maxHeartbeats 2000000 in
theorem rrune_end0 (s : ByteArray) (w : World) (hs : s.size ≤ 1000000) (hl : s.size = 0) :
    Calls Try.prog 19 #[.string s] w fun e w' => e = .returned (.string { data := #[] }) ∧ Below w.heap.size w w' := by
  have HBY := Lib.hid (fun c w h => rbytes_any c w h)
  have HB : Hid (Below w.heap.size w w) := Lib.hid (Below.refl _ _)
  go_enter Try.func19, Try.ntmps19
  go_wp2_with fail
  refine wp_loop_rounds 5 ?_
  rw [rounds_succ]
  go_wp2_with fail
  go_ret
  exact ⟨rfl, HB.out⟩
set_option maxHeartbeats 2000000 in
theorem rrune_end1 (s : ByteArray) (w : World) (hs : s.size ≤ 1000000) (hl : s.size = 1) (b0 : Int) (e0 : ((s[0]'(by omega)).toNat : Int) = b0) (h0 : 0 ≤ b0 ∧ b0 < 256) (t1 : ((str (encC b0)).toList == (s.extract 0 1).toList) = false) :
    Calls Try.prog 19 #[.string s] w fun e w' => e = .returned (.string { data := #[] }) ∧ Below w.heap.size w w' := by
  have HBY := Lib.hid (fun c w h => rbytes_any c w h)
  have HB : Hid (Below w.heap.size w w) := Lib.hid (Below.refl _ _)
  go_enter Try.func19, Try.ntmps19
  go_wp2_with fail
  refine wp_loop_rounds 5 ?_
  rw [rounds_succ]
  go_wp2_with fail
  refine wp_loop_rounds 1 ?_
  rw [rounds_succ]
  go_wp2_with fail
  have hk0 := Below.drew HB.out
  go_region_held3 (fun w' => Below w.heap.size w w') (first | exact hk0 | exact keep_be hk (by assumption)) (first | (go_at_call 26; refine (HBY.out b0 _ (by omega)).mono ?_; rintro e w' ⟨rfl, hk⟩))
  rename_i hHeld
  clear hk0 HB
  have HB := Lib.hid hHeld
  clear hHeld
  generalize w' = v1 at *
  go_wp2_with fail
  rw [rounds_succ]
  go_wp2_with fail
  go_ret
  exact ⟨rfl, HB.out⟩
set_option maxHeartbeats 2000000 in
theorem rrune_end2 (s : ByteArray) (w : World) (hs : s.size ≤ 1000000) (hl : s.size = 2) (b0 : Int) (e0 : ((s[0]'(by omega)).toNat : Int) = b0) (h0 : 0 ≤ b0 ∧ b0 < 256) (b1 : Int) (e1 : ((s[1]'(by omega)).toNat : Int) = b1) (h1 : 0 ≤ b1 ∧ b1 < 256) (t1 : ((str (encC b0)).toList == (s.extract 0 1).toList) = false) (t2 : ((str (encC (64 * (b0 % 32) + b1 % 64))).toList == (s.extract 0 2).toList) = false) :
    Calls Try.prog 19 #[.string s] w fun e w' => e = .returned (.string { data := #[] }) ∧ Below w.heap.size w w' := by
  have HBY := Lib.hid (fun c w h => rbytes_any c w h)
  have HB : Hid (Below w.heap.size w w) := Lib.hid (Below.refl _ _)
  go_enter Try.func19, Try.ntmps19
  go_wp2_with fail
  refine wp_loop_rounds 5 ?_
  rw [rounds_succ]
  go_wp2_with fail
  refine wp_loop_rounds 1 ?_
  rw [rounds_succ]
  go_wp2_with fail
  have hk0 := Below.drew HB.out
  go_region_held3 (fun w' => Below w.heap.size w w') (first | exact hk0 | exact keep_be hk (by assumption)) (first | (go_at_call 26; refine (HBY.out b0 _ (by omega)).mono ?_; rintro e w' ⟨rfl, hk⟩))
  rename_i hHeld
  clear hk0 HB
  have HB := Lib.hid hHeld
  clear hHeld
  generalize w' = v1 at *
  go_wp2_with fail
  rw [rounds_succ]
  go_wp2_with fail
  refine wp_loop_rounds 2 ?_
  rw [rounds_succ]
  go_wp2_with fail
  rw [rounds_succ]
  go_wp2_with fail
  have hk0 := Below.drew HB.out
  go_region_held3 (fun w' => Below w.heap.size w w') (first | exact hk0 | exact keep_be hk (by assumption)) (first | (go_at_call 26; refine (HBY.out (64 * (b0 % 32) + b1 % 64) _ (by omega)).mono ?_; rintro e w' ⟨rfl, hk⟩))
  rename_i hHeld
  clear hk0 HB
  have HB := Lib.hid hHeld
  clear hHeld
  generalize w' = v2 at *
  go_wp2_with fail
  rw [rounds_succ]
  go_wp2_with fail
  go_ret
  exact ⟨rfl, HB.out⟩
set_option maxHeartbeats 2000000 in
theorem rrune_end3 (s : ByteArray) (w : World) (hs : s.size ≤ 1000000) (hl : s.size = 3) (b0 : Int) (e0 : ((s[0]'(by omega)).toNat : Int) = b0) (h0 : 0 ≤ b0 ∧ b0 < 256) (b1 : Int) (e1 : ((s[1]'(by omega)).toNat : Int) = b1) (h1 : 0 ≤ b1 ∧ b1 < 256) (b2 : Int) (e2 : ((s[2]'(by omega)).toNat : Int) = b2) (h2 : 0 ≤ b2 ∧ b2 < 256) (t1 : ((str (encC b0)).toList == (s.extract 0 1).toList) = false) (t2 : ((str (encC (64 * (b0 % 32) + b1 % 64))).toList == (s.extract 0 2).toList) = false) (t3 : ((str (encC (64 * (64 * (b0 % 16) + b1 % 64) + b2 % 64))).toList == (s.extract 0 3).toList) = false) :
    Calls Try.prog 19 #[.string s] w fun e w' => e = .returned (.string { data := #[] }) ∧ Below w.heap.size w w' := by
  have HBY := Lib.hid (fun c w h => rbytes_any c w h)
  have HB : Hid (Below w.heap.size w w) := Lib.hid (Below.refl _ _)
  go_enter Try.func19, Try.ntmps19
  go_wp2_with fail
  refine wp_loop_rounds 5 ?_
  rw [rounds_succ]
  go_wp2_with fail
  refine wp_loop_rounds 1 ?_
  rw [rounds_succ]
  go_wp2_with fail
  have hk0 := Below.drew HB.out
  go_region_held3 (fun w' => Below w.heap.size w w') (first | exact hk0 | exact keep_be hk (by assumption)) (first | (go_at_call 26; refine (HBY.out b0 _ (by omega)).mono ?_; rintro e w' ⟨rfl, hk⟩))
  rename_i hHeld
  clear hk0 HB
  have HB := Lib.hid hHeld
  clear hHeld
  generalize w' = v1 at *
  go_wp2_with fail
  rw [rounds_succ]
  go_wp2_with fail
  refine wp_loop_rounds 2 ?_
  rw [rounds_succ]
  go_wp2_with fail
  rw [rounds_succ]
  go_wp2_with fail
  have hk0 := Below.drew HB.out
  go_region_held3 (fun w' => Below w.heap.size w w') (first | exact hk0 | exact keep_be hk (by assumption)) (first | (go_at_call 26; refine (HBY.out (64 * (b0 % 32) + b1 % 64) _ (by omega)).mono ?_; rintro e w' ⟨rfl, hk⟩))
  rename_i hHeld
  clear hk0 HB
  have HB := Lib.hid hHeld
  clear hHeld
  generalize w' = v2 at *
  go_wp2_with fail
  rw [rounds_succ]
  go_wp2_with fail
  refine wp_loop_rounds 3 ?_
  rw [rounds_succ]
  go_wp2_with fail
  rw [rounds_succ]
  go_wp2_with fail
  rw [rounds_succ]
  go_wp2_with fail
  have hk0 := Below.drew HB.out
  go_region_held3 (fun w' => Below w.heap.size w w') (first | exact hk0 | exact keep_be hk (by assumption)) (first | (go_at_call 26; refine (HBY.out (64 * (64 * (b0 % 16) + b1 % 64) + b2 % 64) _ (by omega)).mono ?_; rintro e w' ⟨rfl, hk⟩))
  rename_i hHeld
  clear hk0 HB
  have HB := Lib.hid hHeld
  clear hHeld
  generalize w' = v3 at *
  go_wp2_with fail
  rw [rounds_succ]
  go_wp2_with fail
  go_ret
  exact ⟨rfl, HB.out⟩
set_option maxHeartbeats 2000000 in
theorem rrune_none (s : ByteArray) (w : World) (hs : s.size ≤ 1000000) (hl : 4 ≤ s.size) (b0 : Int) (e0 : ((s[0]'(by omega)).toNat : Int) = b0) (h0 : 0 ≤ b0 ∧ b0 < 256) (b1 : Int) (e1 : ((s[1]'(by omega)).toNat : Int) = b1) (h1 : 0 ≤ b1 ∧ b1 < 256) (b2 : Int) (e2 : ((s[2]'(by omega)).toNat : Int) = b2) (h2 : 0 ≤ b2 ∧ b2 < 256) (b3 : Int) (e3 : ((s[3]'(by omega)).toNat : Int) = b3) (h3 : 0 ≤ b3 ∧ b3 < 256) (t1 : ((str (encC b0)).toList == (s.extract 0 1).toList) = false) (t2 : ((str (encC (64 * (b0 % 32) + b1 % 64))).toList == (s.extract 0 2).toList) = false) (t3 : ((str (encC (64 * (64 * (b0 % 16) + b1 % 64) + b2 % 64))).toList == (s.extract 0 3).toList) = false) (t4 : ((str (encC (64 * (64 * (64 * (b0 % 8) + b1 % 64) + b2 % 64) + b3 % 64))).toList == (s.extract 0 4).toList) = false) :
    Calls Try.prog 19 #[.string s] w fun e w' => e = .returned (.string { data := #[] }) ∧ Below w.heap.size w w' := by
  have HBY := Lib.hid (fun c w h => rbytes_any c w h)
  have HB : Hid (Below w.heap.size w w) := Lib.hid (Below.refl _ _)
  go_enter Try.func19, Try.ntmps19
  go_wp2_with fail
  refine wp_loop_rounds 5 ?_
  rw [rounds_succ]
  go_wp2_with fail
  refine wp_loop_rounds 1 ?_
  rw [rounds_succ]
  go_wp2_with fail
  have hk0 := Below.drew HB.out
  go_region_held3 (fun w' => Below w.heap.size w w') (first | exact hk0 | exact keep_be hk (by assumption)) (first | (go_at_call 26; refine (HBY.out b0 _ (by omega)).mono ?_; rintro e w' ⟨rfl, hk⟩))
  rename_i hHeld
  clear hk0 HB
  have HB := Lib.hid hHeld
  clear hHeld
  generalize w' = v1 at *
  go_wp2_with fail
  rw [rounds_succ]
  go_wp2_with fail
  refine wp_loop_rounds 2 ?_
  rw [rounds_succ]
  go_wp2_with fail
  rw [rounds_succ]
  go_wp2_with fail
  have hk0 := Below.drew HB.out
  go_region_held3 (fun w' => Below w.heap.size w w') (first | exact hk0 | exact keep_be hk (by assumption)) (first | (go_at_call 26; refine (HBY.out (64 * (b0 % 32) + b1 % 64) _ (by omega)).mono ?_; rintro e w' ⟨rfl, hk⟩))
  rename_i hHeld
  clear hk0 HB
  have HB := Lib.hid hHeld
  clear hHeld
  generalize w' = v2 at *
  go_wp2_with fail
  rw [rounds_succ]
  go_wp2_with fail
  refine wp_loop_rounds 3 ?_
  rw [rounds_succ]
  go_wp2_with fail
  rw [rounds_succ]
  go_wp2_with fail
  rw [rounds_succ]
  go_wp2_with fail
  have hk0 := Below.drew HB.out
  go_region_held3 (fun w' => Below w.heap.size w w') (first | exact hk0 | exact keep_be hk (by assumption)) (first | (go_at_call 26; refine (HBY.out (64 * (64 * (b0 % 16) + b1 % 64) + b2 % 64) _ (by omega)).mono ?_; rintro e w' ⟨rfl, hk⟩))
  rename_i hHeld
  clear hk0 HB
  have HB := Lib.hid hHeld
  clear hHeld
  generalize w' = v3 at *
  go_wp2_with fail
  rw [rounds_succ]
  go_wp2_with fail
  refine wp_loop_rounds 4 ?_
  rw [rounds_succ]
  go_wp2_with fail
  rw [rounds_succ]
  go_wp2_with fail
  rw [rounds_succ]
  go_wp2_with fail
  rw [rounds_succ]
  go_wp2_with fail
  have hk0 := Below.drew HB.out
  go_region_held3 (fun w' => Below w.heap.size w w') (first | exact hk0 | exact keep_be hk (by assumption)) (first | (go_at_call 26; refine (HBY.out (64 * (64 * (64 * (b0 % 8) + b1 % 64) + b2 % 64) + b3 % 64) _ (by omega)).mono ?_; rintro e w' ⟨rfl, hk⟩))
  rename_i hHeld
  clear hk0 HB
  have HB := Lib.hid hHeld
  clear hHeld
  generalize w' = v4 at *
  go_wp2_with fail
  rw [rounds_succ]
  go_wp2_with fail
  go_ret
  exact ⟨rfl, HB.out⟩
theorem bI_split (s : ByteArray) (k : Nat) (h : k < s.size) : (bI s).drop k = ((s[k]'h).toNat : Int) :: (bI s).drop (k + 1) := by
  have hk : k < (bI s).length := by rw [bI_len]; exact h
  rw [List.drop_eq_getElem_cons hk]
  congr 1
  simp [bI]
  rfl
theorem rrune_any (s : ByteArray) (w : World) (hs : s.size ≤ 1000000) : Calls Try.prog 19 #[.string s] w fun e w' => e = .returned (.string (str (runeP (bI s)))) ∧ Below w.heap.size w w' := by
  have hlen := bI_len s
  have hsp := bI_split s
  by_cases z0 : s.size = 0
  · have e0 : bI s = [] := List.eq_nil_of_length_eq_zero (by omega)
    rw [e0]
    exact rrune_end0 s w hs z0
  obtain ⟨b0, e0⟩ : ∃ b0, ((s[0]'(by omega)).toNat : Int) = b0 := ⟨_, rfl⟩
  have h0 : 0 ≤ b0 ∧ b0 < 256 := by have := (s[0]'(by omega)).toNat_lt; omega
  have l0 := hsp 0 (by omega)
  rw [List.drop_zero, e0] at l0
  by_cases t1 : encC b0 = (bI s).take 1
  · rw [show runeP (bI s) = encC b0 from ?_]
    · rw [← ext_is t1]
      exact rrune_yes1 s w hs (by omega) b0 e0 h0 (test_yes t1)
    · rw [l0] at t1 ⊢
      rw [List.take_succ_cons, List.take_zero] at t1
      rw [runeP, if_pos t1, t1]
  have f1 := test_no t1
  rw [l0, List.take_succ_cons, List.take_zero] at t1
  by_cases z1 : s.size = 1
  · have hd : (bI s).drop 1 = [] := List.eq_nil_of_length_eq_zero (by rw [List.length_drop]; omega)
    rw [l0, hd, runeP, if_neg t1, runeP2]
    exact rrune_end1 s w hs z1 b0 e0 h0 f1
  obtain ⟨b1, e1⟩ : ∃ b1, ((s[1]'(by omega)).toNat : Int) = b1 := ⟨_, rfl⟩
  have h1 : 0 ≤ b1 ∧ b1 < 256 := by have := (s[1]'(by omega)).toNat_lt; omega
  have l1 := hsp 1 (by omega)
  rw [e1] at l1
  by_cases t2 : encC (64 * (b0 % 32) + b1 % 64) = (bI s).take 2
  · rw [show runeP (bI s) = encC (64 * (b0 % 32) + b1 % 64) from ?_]
    · rw [← ext_is t2]
      exact rrune_yes2 s w hs (by omega) b0 e0 h0 b1 e1 h1 f1 (test_yes t2)
    · rw [l0, l1] at t2 ⊢
      rw [List.take_succ_cons, List.take_succ_cons, List.take_zero] at t2
      rw [runeP, if_neg t1, runeP2, if_pos t2, t2]
  have f2 := test_no t2
  rw [l0, l1, List.take_succ_cons, List.take_succ_cons, List.take_zero] at t2
  by_cases z2 : s.size = 2
  · have hd : (bI s).drop (1 + 1) = [] := List.eq_nil_of_length_eq_zero (by rw [List.length_drop]; omega)
    rw [l0, l1, hd, runeP, if_neg t1, runeP2, if_neg t2, runeP3]
    exact rrune_end2 s w hs z2 b0 e0 h0 b1 e1 h1 f1 f2
  obtain ⟨b2, e2⟩ : ∃ b2, ((s[2]'(by omega)).toNat : Int) = b2 := ⟨_, rfl⟩
  have h2 : 0 ≤ b2 ∧ b2 < 256 := by have := (s[2]'(by omega)).toNat_lt; omega
  have l2 := hsp 2 (by omega)
  rw [e2] at l2
  by_cases t3 : encC (64 * (64 * (b0 % 16) + b1 % 64) + b2 % 64) = (bI s).take 3
  · rw [show runeP (bI s) = encC (64 * (64 * (b0 % 16) + b1 % 64) + b2 % 64) from ?_]
    · rw [← ext_is t3]
      exact rrune_yes3 s w hs (by omega) b0 e0 h0 b1 e1 h1 b2 e2 h2 f1 f2 (test_yes t3)
    · rw [l0, l1, l2] at t3 ⊢
      rw [List.take_succ_cons, List.take_succ_cons, List.take_succ_cons, List.take_zero] at t3
      rw [runeP, if_neg t1, runeP2, if_neg t2, runeP3, if_pos t3, t3]
  have f3 := test_no t3
  rw [l0, l1, l2, List.take_succ_cons, List.take_succ_cons, List.take_succ_cons, List.take_zero] at t3
  by_cases z3 : s.size = 3
  · have hd : (bI s).drop (2 + 1) = [] := List.eq_nil_of_length_eq_zero (by rw [List.length_drop]; omega)
    rw [l0, l1, l2, hd, runeP, if_neg t1, runeP2, if_neg t2, runeP3, if_neg t3, runeP4]
    exact rrune_end3 s w hs z3 b0 e0 h0 b1 e1 h1 b2 e2 h2 f1 f2 f3
  obtain ⟨b3, e3⟩ : ∃ b3, ((s[3]'(by omega)).toNat : Int) = b3 := ⟨_, rfl⟩
  have h3 : 0 ≤ b3 ∧ b3 < 256 := by have := (s[3]'(by omega)).toNat_lt; omega
  have l3 := hsp 3 (by omega)
  rw [e3] at l3
  by_cases t4 : encC (64 * (64 * (64 * (b0 % 8) + b1 % 64) + b2 % 64) + b3 % 64) = (bI s).take 4
  · rw [show runeP (bI s) = encC (64 * (64 * (64 * (b0 % 8) + b1 % 64) + b2 % 64) + b3 % 64) from ?_]
    · rw [← ext_is t4]
      exact rrune_yes4 s w hs (by omega) b0 e0 h0 b1 e1 h1 b2 e2 h2 b3 e3 h3 f1 f2 f3 (test_yes t4)
    · rw [l0, l1, l2, l3] at t4 ⊢
      rw [List.take_succ_cons, List.take_succ_cons, List.take_succ_cons, List.take_succ_cons, List.take_zero] at t4
      rw [runeP, if_neg t1, runeP2, if_neg t2, runeP3, if_neg t3, runeP4, if_pos t4, t4]
  have f4 := test_no t4
  rw [l0, l1, l2, l3, List.take_succ_cons, List.take_succ_cons, List.take_succ_cons, List.take_succ_cons, List.take_zero] at t4
  rw [l0, l1, l2, l3, runeP, if_neg t1, runeP2, if_neg t2, runeP3, if_neg t3, runeP4, if_neg t4]
  exact rrune_none s w hs (by omega) b0 e0 h0 b1 e1 h1 b2 e2 h2 b3 e3 h3 f1 f2 f3 f4
end Go.Proofs.Ytcpofeebfckmhaa
