/- awake of the law: it is true in every world. -/
import Derived.Test.YtcpofeebfckmhaaJk
namespace Go.Proofs.Ytcpofeebfckmhaa
open Go.RowKit
set_option maxRecDepth 100000
set_option linter.unusedVariables false
set_option linter.unusedSimpArgs false
theorem aw1 : quoteP (bI { data := #[97, 10, 34, 1] }) = ([34, 97, 92, 110, 92, 34, 92, 117, 48, 48, 48, 49, 34], 0) := by decide
theorem aw2 : takeP (bI { data := #[120, 34, 92, 117, 100, 56, 51, 100, 92, 117, 100, 101, 48, 48, 34, 121] }) 1 = ([240, 159, 152, 128], 15, 0) := by decide
theorem aw3 : takeP (bI { data := #[34, 97, 92, 113] }) 0 = ([], 2, 4) := by decide
theorem aw4 : unqP (bI { data := #[34, 97] }) = ([], 3) := by decide
theorem aw5 : quoteP (bI { data := #[255] }) = ([], 4) := by decide
theorem aw6 : unqP (bI { data := #[34, 92, 47, 92, 117, 48, 48, 52, 49, 34] }) = ([47, 65], 0) := by decide
theorem aw7 : decide (0 ≤ countP (bI { data := #[195, 164] })) = true := by decide
theorem aw8 : decide (0 ≤ countP (bI { data := #[237, 160, 128] })) = false := by decide
theorem aw9 : countP (bI { data := #[195, 164, 98] }) = 2 := by decide
theorem aw10 : countP (bI { data := #[128] }) = -1 := by decide
theorem as1 : str [34, 97, 92, 110, 92, 34, 92, 117, 48, 48, 48, 49, 34] = { data := #[34, 97, 92, 110, 92, 34, 92, 117, 48, 48, 48, 49, 34] } := by decide
theorem as2 : str [240, 159, 152, 128] = { data := #[240, 159, 152, 128] } := by decide
theorem as6 : str [47, 65] = { data := #[47, 65] } := by decide
theorem as0 : str [] = { data := #[] } := by decide
theorem jawake_any (w : World) : Calls Try.prog 6 #[] w fun e w' => e = .returned (.bool true) ∧ Below w.heap.size w w' := by
  have h1 := Lib.hid (fun W => jquote_any { data := #[97, 10, 34, 1] } W (by decide))
  have h2 := Lib.hid (fun W => jtake_any { data := #[120, 34, 92, 117, 100, 56, 51, 100, 92, 117, 100, 101, 48, 48, 34, 121] } 1 W (by decide) (by decide))
  have h3 := Lib.hid (fun W => jtake_any { data := #[34, 97, 92, 113] } 0 W (by decide) (by decide))
  have h4 := Lib.hid (fun W => junq_any { data := #[34, 97] } W (by decide))
  have h5 := Lib.hid (fun W => jquote_any { data := #[255] } W (by decide))
  have h6 := Lib.hid (fun W => junq_any { data := #[34, 92, 47, 92, 117, 48, 48, 52, 49, 34] } W (by decide))
  have h7 := Lib.hid (fun W => jvalid_any { data := #[195, 164] } W (by decide))
  have h8 := Lib.hid (fun W => jvalid_any { data := #[237, 160, 128] } W (by decide))
  have h9 := Lib.hid (fun W => jcount_any { data := #[195, 164, 98] } W (by decide))
  have h10 := Lib.hid (fun W => jcount_any { data := #[128] } W (by decide))
  rw [aw1] at h1
  rw [show (((1 : Nat) : Int)) = 1 from rfl, aw2] at h2
  rw [show (((0 : Nat) : Int)) = 0 from rfl, aw3] at h3
  rw [aw4] at h4
  rw [aw5] at h5
  rw [aw6] at h6
  rw [aw7] at h7
  rw [aw8] at h8
  rw [aw9] at h9
  rw [aw10] at h10
  dsimp only at h1 h2 h3 h4 h5 h6
  rw [as1] at h1
  rw [as2] at h2
  rw [as0] at h3 h4 h5
  rw [as6] at h6
  have HB0 : Hid (Below w.heap.size w w) := Lib.hid (Below.refl _ _)
  go_enter Try.func6, Try.ntmps6
  go_wp2_with fail
  refine (h1.out _).mono ?_
  rintro e w1 ⟨rfl, hb⟩
  have HB1 := Lib.hid (HB0.out.trans (hb.mono HB0.out.size))
  clear hb
  go_wp2_with fail
  refine (h2.out _).mono ?_
  rintro e w2 ⟨rfl, hb⟩
  have HB2 := Lib.hid (HB1.out.trans (hb.mono HB1.out.size))
  clear hb
  go_wp2_with fail
  refine (h3.out _).mono ?_
  rintro e w3 ⟨rfl, hb⟩
  have HB3 := Lib.hid (HB2.out.trans (hb.mono HB2.out.size))
  clear hb
  go_wp2_with fail
  refine (h4.out _).mono ?_
  rintro e w4 ⟨rfl, hb⟩
  have HB4 := Lib.hid (HB3.out.trans (hb.mono HB3.out.size))
  clear hb
  go_wp2_with fail
  refine (h5.out _).mono ?_
  rintro e w5 ⟨rfl, hb⟩
  have HB5 := Lib.hid (HB4.out.trans (hb.mono HB4.out.size))
  clear hb
  go_wp2_with fail
  refine (h6.out _).mono ?_
  rintro e w6 ⟨rfl, hb⟩
  have HB6 := Lib.hid (HB5.out.trans (hb.mono HB5.out.size))
  clear hb
  go_wp2_with fail
  refine (h7.out _).mono ?_
  rintro e w7 ⟨rfl, hb⟩
  have HB7 := Lib.hid (HB6.out.trans (hb.mono HB6.out.size))
  clear hb
  go_wp2_with fail
  refine (h8.out _).mono ?_
  rintro e w8 ⟨rfl, hb⟩
  have HB8 := Lib.hid (HB7.out.trans (hb.mono HB7.out.size))
  clear hb
  go_wp2_with fail
  refine (h9.out _).mono ?_
  rintro e w9 ⟨rfl, hb⟩
  have HB9 := Lib.hid (HB8.out.trans (hb.mono HB8.out.size))
  clear hb
  go_wp2_with fail
  refine (h10.out _).mono ?_
  rintro e w10 ⟨rfl, hb⟩
  have HB10 := Lib.hid (HB9.out.trans (hb.mono HB9.out.size))
  clear hb
  go_wp2_with fail
  go_ret
  exact ⟨rfl, HB10.out⟩
end Go.Proofs.Ytcpofeebfckmhaa
