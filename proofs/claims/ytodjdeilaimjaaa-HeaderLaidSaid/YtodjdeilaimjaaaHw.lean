/- The contract of 'awake', which every law of this layer ends in: it returns true, whatever the world, and what was there stays. -/
import Derived.Test.YtodjdeilaimjaaaHv
namespace Go.Proofs.Ytodjdeilaimjaaa
open Go.RowKit
set_option linter.unusedVariables false
set_option linter.unusedSimpArgs false
def hB : Hd := { zeroH with knd := 6 }
theorem mayB : MayH hB := by simp [MayH, U64, U8, hB, zeroH]
theorem encB : encH hB = ([], 14) := by decide
theorem sA_size : (str (bytsH hA)).size = 127 := by rw [str_size, bytsH_len hA mayA ckA]
theorem bl_byte (t : ByteArray) (l : List Int) (ht : bl t = l) (k : Nat) (c : Int) (h : k < t.size) (hc : l.getD k 0 = c) : ((t[k]'h).toNat : Int) = c := by
  rw [byte_at t k h, nmB_one, ht, hc]
theorem sA_head : (str (bytsH hA)).extract 0 8 = ⟨#[80, 77, 84, 105, 108, 101, 115, 3]⟩ := by
  apply ByteArray.ext
  apply Array.ext'
  rw [extract_list, str_list, ← List.map_drop, ← List.map_take]
  decide
theorem decA (W : World) : Calls Try.prog 17 #[.string (str (bytsH hA) ++ ⟨#[120]⟩)] W fun e w' => e = .returned (.tuple #[.agg (cH hA), .int .i64 0]) ∧ Below W.heap.size W w' := by
  have h := decode_any (str (bytsH hA) ++ ⟨#[120]⟩) W (by rw [ByteArray.size_append, sA_size]; simp [maxLen]; decide)
  rw [bl_append, bl_str _ (bytsH_byts hA), dec_enc hA _ mayA ckA] at h
  exact h
theorem decP (W : World) : Calls Try.prog 17 #[.string ⟨#[80, 77, 84, 105, 108, 101, 115]⟩] W fun e w' => e = .returned (.tuple #[.agg (cH zeroH), .int .i64 3]) ∧ Below W.heap.size W w' :=
  decode_short _ W (by decide)
theorem encAc (W : World) : Calls Try.prog 8 #[.agg (cH hA)] W fun e w' => e = .returned (.tuple #[.string (str (bytsH hA)), .int .i64 0]) ∧ Below W.heap.size W w' := by
  have h := encode_any hA W mayA
  rw [encA, encA1] at h
  exact h
theorem encBc (W : World) : Calls Try.prog 8 #[.agg (cH hB)] W fun e w' => e = .returned (.tuple #[.string (str []), .int .i64 14]) ∧ Below W.heap.size W w' := by
  have h := encode_any hB W mayB
  rw [encB] at h
  exact h
theorem laidAc (W : World) : Calls Try.prog 13 #[.agg (cH hA), .int .u64 0] W fun e w' => e = .returned (.int .i64 10) ∧ Below W.heap.size W w' := by
  have h := laid_any hA 0 W mayA
  rw [laidA] at h
  exact h
theorem endAc (W : World) : Calls Try.prog 15 #[.agg #[.int .u64 3, .int .u64 4]] W fun e w' => e = .returned (.int .u64 7) ∧ Below W.heap.size W w' := end_sec 3 4 W
theorem eqA (W : World) : Sem.run Try.prog (Op.equalIn 10000 32 (.agg (cH hA)) (.agg #[.int .u64 0, .int .u64 0, .int .u64 0, .int .u64 0, .int .u64 0, .int .u64 0, .int .u64 0, .int .u64 0, .int .u64 0, .int .u64 0, .int .u64 0, .bool false, .int .u8 0, .int .u8 0, .int .u8 2, .int .i64 0, .int .i64 3, .int .i64 (-1), .int .i64 0, .int .i64 0, .int .i64 0, .int .i64 0, .int .i64 0, .int .i64 0])) W = .ok true W := by
  have h := eq_head hA hA W
  rw [decide_eq_true rfl] at h
  exact h
set_option maxRecDepth 20000 in
set_option maxHeartbeats 1000000 in
theorem awake_any (w : World) : Calls Try.prog 16 #[] w fun e w' => e = .returned (.bool true) ∧ Below w.heap.size w w' := by
  have K1 := Lib.hid encAc
  have K2 := Lib.hid decA
  have hs8 := sA_head
  have hz := sA_size
  have hbl := bl_str _ (bytsH_byts hA)
  obtain ⟨s, hs⟩ : ∃ s, str (bytsH hA) = s := ⟨_, rfl⟩
  rw [hs] at K1 K2 hs8 hz hbl
  clear hs
  have a99 : 99 < s.size := by omega
  have h99 := bl_byte s _ hbl 99 2 a99 (by decide)
  have a101 : 101 < s.size := by omega
  have h101 := bl_byte s _ hbl 101 3 a101 (by decide)
  have a102 : 102 < s.size := by omega
  have h102 := bl_byte s _ hbl 102 255 a102 (by decide)
  clear hbl
  have g8 : (8 : Int) ≤ (s.size : Int) := by omega
  have g99 : (99 : Int) < (s.size : Int) := by omega
  have g101 : (101 : Int) < (s.size : Int) := by omega
  have g102 : (102 : Int) < (s.size : Int) := by omega
  have hzz : s.size ≤ 127 := by omega
  have hz127 : ((s.size : Int) == 127) = true := by simp only [beq_iff_eq]; omega
  obtain ⟨s8, hs8e⟩ : ∃ x, s.extract 0 8 = x := ⟨_, rfl⟩
  rw [hs8e] at hs8
  have he8 := str_eq hs8
  have hEq := fun W => eqA W
  clear hs8 hz
  go_enter Try.func16, Try.ntmps16
  go_wp2_with fail
  refine (K1.out _).mono ?_
  rintro e w1 ⟨rfl, hb⟩
  have HB := Lib.hid hb
  clear hb
  go_wp2_with fail
  refine (K2.out _).mono ?_
  rintro e w2 ⟨rfl, hb2⟩
  have hb := HB.out.trans (hb2.mono HB.out.size)
  have HB2 := Lib.hid hb
  have HZ := HAt.zero w2 32
  clear hb hb2 HB
  go_wp2_with (first | (refine store_head (by rfl) _ _ rfl _ rfl hA rfl _ zeroH (by assumption) rfl ?_; intro w3 HP) | fail)
  have hb3 := HP.2.2.1 _ _ HB2.out.size (HB2.out.alloc HB2.out.size _)
  have HB3 := Lib.hid hb3
  have hlt3 : w2.heap.size < w3.heap.size := HP.1.lt
  have HA3 := Lib.hid HP.1
  clear HP HZ hb3 HB2
  refine (decP _).mono ?_
  rintro e w4 ⟨rfl, hb4⟩
  have hb := HB3.out.trans (hb4.mono HB3.out.size)
  have HB4 := Lib.hid hb
  have HA4 := Lib.hid (HA3.out.later hb4)
  have hlt4 := HA4.out.lt
  have HZ := HAt.zero w4 32
  clear hb hb4 HB3 HA3
  go_wp2_with (first | (refine store_head (by rfl) _ _ rfl _ rfl zeroH rfl _ zeroH (by assumption) rfl ?_; intro w5 HP) | fail)
  have hb5 := HP.2.2.1 _ _ HB4.out.size (HB4.out.alloc HB4.out.size _)
  have HB5 := Lib.hid hb5
  have HA5 := Lib.hid (HP.keep ((heap_alloc_old hlt4).trans HA4.out) (by omega))
  clear HP HZ hb5 HB4 HA4
  refine (encBc _).mono ?_
  rintro e w6 ⟨rfl, hb6⟩
  have hb := HB5.out.trans (hb6.mono HB5.out.size)
  have HB6 := Lib.hid hb
  have hA6 := HA5.out.later hb6
  clear hb hb6 HB5 HA5
  go_wp2_with (first | (refine load_head (by rfl) _ rfl _ rfl _ hA (by assumption) ?_) | fail)
  refine (laidAc _).mono ?_
  rintro e w7 ⟨rfl, hb7⟩
  have hb := HB6.out.trans (hb7.mono HB6.out.size)
  have HB7 := Lib.hid hb
  clear hb hb7 HB6 hA6
  go_wp2_with fail
  refine (endAc _).mono ?_
  rintro e w8 ⟨rfl, hb8⟩
  have hb := HB7.out.trans (hb8.mono HB7.out.size)
  have HB8 := Lib.hid hb
  clear hb hb8 HB7
  go_wp2_with fail
  go_ret
  exact ⟨rfl, HB8.out⟩
end Go.Proofs.Ytodjdeilaimjaaa
