/- Contracts of the document's word, signed and section: texts of numbers. -/
import Derived.Test.YtodjdeilaimjaaaHf
import Derived.Test.YtodjdeilaimjaaaHc
import Derived.Test.YtodjdeilaimjaaaQ
import Derived.Test.YtodjdeilaimjaaaB
import Derived.Test.YtodjdeilaimjaaaF
import Derived.Deep.DeepCutAuto
import Derived.Deep.RegionHeld3
namespace Go.Proofs.Ytodjdeilaimjaaa
open Go.RowKit
set_option linter.unusedVariables false
theorem str_append (a b : List Int) : str a ++ str b = str (a ++ b) := by
  apply ByteArray.ext
  apply Array.ext'
  rw [ByteArray.data_append, Array.toList_append, str_list, str_list, str_list, List.map_append]
theorem nil_bytes (w : World) : BytesAt w (.slice none 0 0) [] := ⟨none, 0, rfl, Nat.le_refl _, by simp, fun h => by simp at h⟩
theorem word_any (n : Nat) (x : Int) (w : World) (h0 : 1 ≤ n) (h8 : n ≤ 8) (x0 : 0 ≤ x) (x1 : x ≤ 18446744073709551615) : Calls Try.prog 25 #[.int .i64 n, .int .u64 x] w fun e w' => e = .returned (.string (str (leH n x))) ∧ Below w.heap.size w w' := by
  go_enter Try.func25, Try.ntmps25
  go_wp2_with fail
  refine (rput_any _ [] n x n _ (nil_bytes _) (by simp) (.inl ⟨rfl, h0, h8⟩) x0 x1).mono ?_
  rintro e w1 ⟨v1, rfl, ho, hb1⟩
  have hs := run_str w1 v1 _ ho.bytesAt
  rw [List.nil_append, leB_leH] at hs
  clear ho
  go_wp2_with fail
  go_ret
  exact ⟨rfl, hb1⟩
theorem word8 (x : Int) (w : World) (hx : U64 x) : Calls Try.prog 25 #[.int .i64 8, .int .u64 x] w fun e w' => e = .returned (.string (str (leH 8 x))) ∧ Below w.heap.size w w' := word_any 8 x w (by omega) (by omega) hx.1 hx.2
theorem word1 (x : Int) (w : World) (hx : U64 x) : Calls Try.prog 25 #[.int .i64 1, .int .u64 x] w fun e w' => e = .returned (.string (str (leH 1 x))) ∧ Below w.heap.size w w' := word_any 1 x w (by omega) (by omega) hx.1 hx.2
theorem word4 (x : Int) (w : World) (hx : U64 x) : Calls Try.prog 25 #[.int .i64 4, .int .u64 x] w fun e w' => e = .returned (.string (str (leH 4 x))) ∧ Below w.heap.size w w' := word_any 4 x w (by omega) (by omega) hx.1 hx.2
theorem signed_any (x : Int) (w : World) (h0 : -2147483648 ≤ x) (h1 : x < 2147483648) : Calls Try.prog 26 #[.int .i64 x] w fun e w' => e = .returned (.string (str (leH 4 x))) ∧ Below w.heap.size w w' := by
  have hi : inr x 4 = true := by rw [inr_iff]; simp only [Int.reduceMul, Int.reduceSub, Int.reduceToNat, Int.reducePow]; omega
  have hu := Lib.hid (fun W => runsigned_yes x 4 W (by omega) (by omega) (by omega) (by omega) hi)
  have hl : low x 4 = x % 4294967296 := by unfold low; simp only [Int.reduceMul, Int.reduceToNat, Int.reducePow]
  have hw := Lib.hid (fun W => word4 (low x 4) W (by unfold U64; rw [hl]; omega))
  have he : Hid (leH 4 (low x 4) = leH 4 x) := Lib.hid (by rw [hl]; exact leH_mod 4 1 x)
  clear hi hl h0 h1
  go_enter Try.func26, Try.ntmps26
  go_wp2_with fail
  refine (hu.out _).mono ?_
  rintro e w' ⟨rfl, rfl⟩
  go_wp2_with fail
  refine (hw.out _).mono ?_
  rintro e w1 ⟨rfl, hb⟩
  rw [he.out]
  go_wp2_with fail
  go_ret
  exact ⟨rfl, hb⟩
theorem keep2c {w' w1 : World} {a0 a1 : Addr} {v0 v1 : Value} (hb : Below w'.heap.size w' w1) (h : w'.cell? a0 = some v0 ∧ w'.cell? a1 = some v1) : w1.cell? a0 = some v0 ∧ w1.cell? a1 = some v1 := ⟨cellb_later hb h.1, cellb_later hb h.2⟩
theorem keep2u {w w' w1 : World} {a0 a1 : Addr} {v0 v1 : Value} (hb : Below w'.heap.size w' w1) (h : w'.cell? a0 = some v0 ∧ w'.cell? a1 = some v1 ∧ Below w.heap.size w w') : w1.cell? a0 = some v0 ∧ w1.cell? a1 = some v1 ∧ Below w.heap.size w w1 := ⟨cellb_later hb h.1, cellb_later hb h.2.1, h.2.2.trans (hb.mono h.2.2.size)⟩
theorem section_any (f l : Int) (w : World) (hf : U64 f) (hl : U64 l) : Calls Try.prog 24 #[.agg #[.int .u64 f, .int .u64 l]] w fun e w' => e = .returned (.string (str (leH 8 f ++ leH 8 l))) ∧ Below w.heap.size w w' := by
  have HW := Lib.hid (fun W => word8 f W hf)
  have HV := Lib.hid (fun W => word8 l W hl)
  have z1 : (str (leH 8 f)).size ≤ 8 := by rw [str_size, leH_len]; omega
  have z2 : (str (leH 8 l)).size ≤ 8 := by rw [str_size, leH_len]; omega
  have he : Hid (str (leH 8 f) ++ str (leH 8 l) = str (leH 8 f ++ leH 8 l)) := Lib.hid (str_append _ _)
  obtain ⟨x, hx⟩ : ∃ x, str (leH 8 f) = x := ⟨_, rfl⟩
  obtain ⟨y, hy⟩ : ∃ y, str (leH 8 l) = y := ⟨_, rfl⟩
  rw [hx] at HW z1 he; rw [hy] at HV z2 he
  have zs : ¬ 9223372036854775807 < x.size + y.size := by omega
  clear hx hy hf hl
  go_enter Try.func24, Try.ntmps24
  go_wp2_with fail
  obtain ⟨W, hW⟩ : ∃ W, w.alloc (.cells #[.int .u64 f, .int .u64 l] 24) = W := ⟨_, rfl⟩
  have a0 : W.cell? ⟨w.heap.size, 0, none⟩ = some (.int .u64 f) := by rw [← hW]; simp [go_sem]
  have a1 : W.cell? ⟨w.heap.size, 1, none⟩ = some (.int .u64 l) := by rw [← hW]; simp [go_sem]
  have u : Below w.heap.size w W := by rw [← hW]; exact (Below.refl _ _).alloc (Nat.le_refl _) _
  rw [hW]
  clear hW
  have HS0 : Hid ((fun w' => w'.cell? ⟨w.heap.size, 0, none⟩ = some (.int .u64 f) ∧ w'.cell? ⟨w.heap.size, 1, none⟩ = some (.int .u64 l) ∧ Below w.heap.size w w') W.drew) := Lib.hid ⟨cellb_later (Below.drew (Below.refl _ _)) a0, cellb_later (Below.drew (Below.refl _ _)) a1, u.drew⟩
  go_region_held3 (fun w' => w'.cell? ⟨w.heap.size, 0, none⟩ = some (.int .u64 f) ∧ w'.cell? ⟨w.heap.size, 1, none⟩ = some (.int .u64 l) ∧ Below w.heap.size w w') (first | exact HS0.out | exact keep2u (by assumption) (by assumption))
    (first | (go_at_call_of 25 f; refine (HW.out _).mono ?_; rintro e w' ⟨rfl, hb⟩) | (go_at_call_of 25 l; refine (HV.out _).mono ?_; rintro e w' ⟨rfl, hb⟩))
  go_wp2_with fail
  go_ret
  refine ⟨ret_str he.out, ?_⟩
  go_split_ands
  assumption
end Go.Proofs.Ytodjdeilaimjaaa
