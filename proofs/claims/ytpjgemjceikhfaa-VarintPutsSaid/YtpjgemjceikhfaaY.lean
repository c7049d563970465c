/- The contract of 'awake', which every law of this layer ends in: it returns true, whatever the world, and what was there stays. -/
import Derived.Test.YtpjgemjceikhfaaO
import Derived.Test.YtpjgemjceikhfaaL
import Derived.Test.YtpjgemjceikhfaaK3
namespace Go.Proofs.Ytpjgemjceikhfaa
open Go.RowKit
set_option linter.unusedVariables false
theorem words_two (w : World) (a b : Int) : WordsAt (w.alloc (.cells #[.int .u64 a, .int .u64 b] 23)) (.slice (some ⟨w.heap.size, 0, none⟩) 2 2) [a, b] := by
  refine ⟨_, 2, rfl, fun k hk => ⟨w.heap.size, 0, rfl, by simp, ?_⟩⟩
  rcases (by simp at hk; omega : k = 0 ∨ k = 1) with rfl | rfl
  · rw [World.cell?_alloc_at _ _ _ _ rfl]; rfl
  · rw [World.cell?_alloc_at _ _ _ _ rfl]; rfl
theorem e300 : enc 300 = [172, 2] ∧ str ([120] ++ [172, 2]) = ⟨#[120, 172, 2]⟩ ∧ encs [1, 300] = [1, 172, 2] ∧ str [1, 172, 2] = ⟨#[1, 172, 2]⟩ := by decide
theorem get300 : getX ⟨#[120, 172, 2]⟩ 1 0 = 300 ∧ getP ⟨#[120, 172, 2]⟩ 1 0 = 3 ∧ getB ⟨#[120, 172, 2]⟩ 1 0 = 0 := by decide
theorem get128 : getX ⟨#[128, 0]⟩ 0 0 = 0 ∧ getP ⟨#[128, 0]⟩ 0 0 = 0 ∧ getB ⟨#[128, 0]⟩ 0 0 = 4 := by decide
theorem get255 : getX ⟨#[255]⟩ 0 0 = 0 ∧ getP ⟨#[255]⟩ 0 0 = 0 ∧ getB ⟨#[255]⟩ 0 0 = 3 := by decide
theorem tk2 : (tkAll ⟨#[1, 172, 2]⟩ 0 0 2).1 = [1, 300] ∧ (tkAll ⟨#[1, 172, 2]⟩ 0 0 2).2.1 = 3 ∧ (tkAll ⟨#[1, 172, 2]⟩ 0 0 2).2.2 = 0 := by decide
theorem sizes : (enc 9223372036854775808).length = 10 ∧ (enc 0).length = 1 := by decide
theorem end3 : endV (⟨#[120, 172, 2]⟩ : ByteArray) 3 0 = 0 := by kernel_rfl
set_option maxHeartbeats 1600000 in
set_option maxRecDepth 20000 in
theorem awake_any (w : World) : Calls Try.prog 8 #[] w fun e w' => e = .returned (.bool true) ∧ Below w.heap.size w w' := by
  have hcv := fun (w : World) (C : Array Value) (n c : Nat) => Lib.run_convert_bytes_const (P := Try.prog) w 22 5 C n c Try.underlying22 Try.underlying5
  have G1 : Hid (∀ W, Calls Try.prog 14 #[.agg #[.string ⟨#[120, 172, 2]⟩, .int .i64 1, .int .i64 0]] W (GetEnd ⟨#[120, 172, 2]⟩ 300 3 0 W)) := Lib.hid (fun W => by
    have := get_any ⟨#[120, 172, 2]⟩ 1 0 W (by decide)
    rwa [get300.1, get300.2.1, get300.2.2] at this)
  have G2 : Hid (∀ W, Calls Try.prog 14 #[.agg #[.string ⟨#[128, 0]⟩, .int .i64 0, .int .i64 0]] W (GetEnd ⟨#[128, 0]⟩ 0 0 4 W)) := Lib.hid (fun W => by
    have := get_any ⟨#[128, 0]⟩ 0 0 W (by decide)
    rwa [get128.1, get128.2.1, get128.2.2] at this)
  have G3 : Hid (∀ W, Calls Try.prog 14 #[.agg #[.string ⟨#[255]⟩, .int .i64 0, .int .i64 0]] W (GetEnd ⟨#[255]⟩ 0 0 3 W)) := Lib.hid (fun W => by
    have := get_any ⟨#[255]⟩ 0 0 W (by decide)
    rwa [get255.1, get255.2.1, get255.2.2] at this)
  have T2 : Hid (∀ W, Calls Try.prog 17 #[.agg #[.string ⟨#[1, 172, 2]⟩, .int .i64 0, .int .i64 0], .int .i64 2] W (TakeEnd ⟨#[1, 172, 2]⟩ [1, 300] 3 0 W)) := Lib.hid (fun W => by
    have := take_any ⟨#[1, 172, 2]⟩ 0 0 2 W (by decide)
    rwa [tk2.1, tk2.2.1, tk2.2.2] at this)
  go_enter Try.func8, Try.ntmps8
  go_wp2_with fail
  refine (put_any _ [120] 300 _ (bytes_lit w 120) (by decide) (by omega) (by omega)).mono ?_
  rintro e w1 ⟨v, rfl, hown, hb1⟩
  rw [e300.1] at hown
  have hbw1 : Below w.heap.size w w1 := Below.trans (by go_grown) (hb1.mono (by rw [World.size_alloc]; omega))
  have hbv := hown.bytesAt
  have hs1 := run_str w1 v _ hbv
  rw [e300.2.1] at hs1
  have HBV := Lib.hid hbv; clear hbv hown hb1
  go_wp2_with fail
  refine (G1.out _).mono ?_
  rintro e w2 ⟨rfl, hb2⟩
  have hbw2 : Below w.heap.size w w2 := hbw1.trans (hb2.mono hbw1.size)
  have HB2 := Lib.hid (HBV.out.below hb2)
  clear hs1 HBV hb2 hbw1 G1
  go_wp2_with fail
  refine (G2.out _).mono ?_
  rintro e w3 ⟨rfl, hb3⟩
  obtain ⟨z3, b3, c0, c1, c2⟩ := kept1 hb3
  have hbw3 := hbw2.trans (b3.mono hbw2.size)
  have HB3 := Lib.hid (HB2.out.below b3)
  clear hb3 b3 hbw2 HB2 G2
  go_wp2_with fail
  refine (G3.out _).mono ?_
  rintro e w4 ⟨rfl, hb4⟩
  obtain ⟨z4, b4, d0, d1, d2⟩ := kept1 hb4
  have hbw4 := hbw3.trans (b4.mono hbw3.size)
  have HB4 := Lib.hid (HB3.out.below b4)
  replace c0 := cell_later b4 c0
  replace c1 := cell_later b4 c1
  replace c2 := cell_later b4 c2
  clear hb4 b4 hbw3 HB3 G3
  go_wp2_with fail
  refine (T2.out _).mono ?_
  rintro e w5 ⟨lv, rfl, hown, hb5⟩
  obtain ⟨z5, b5, e0, e1, e2⟩ := kept1 hb5
  have hbw5 := hbw4.trans (b5.mono hbw4.size)
  have HB5 := Lib.hid (HB4.out.below b5)
  replace c0 := cell_later b5 c0
  replace c1 := cell_later b5 c1
  replace c2 := cell_later b5 c2
  replace d2 := cell_later b5 d2
  have hlw := hown.wordsAt
  obtain ⟨la, lcap, rfl, hlc⟩ := hlw
  obtain ⟨lb, loff, rfl, hlb, hl1⟩ := hlc 1 (by decide)
  clear hb5 b5 hbw4 HB4 T2 hown hlc d0 d1 e0 e1
  have hl1' : w5.cell? ⟨lb, loff + 1, none⟩ = some (.int .u64 300) := hl1
  clear hl1
  go_upto_region 6 with fail
  obtain ⟨W, hW⟩ : ∃ W, w5.alloc (.cells #[.string ⟨#[1, 172, 2]⟩, .int .i64 3, .int .i64 0] 36) = W := ⟨_, rfl⟩
  have b6 : Below w5.heap.size w5 W := by rw [← hW]; exact (Below.refl _ _).alloc (Nat.le_refl _) _
  have f1 : W.cell? ⟨w5.heap.size, 1, none⟩ = some (.int .i64 3) := by rw [← hW]; simp [go_sem]
  have hbW := hbw5.trans (b6.mono hbw5.size)
  have HBW := Lib.hid (HB5.out.below b6)
  have hsW := run_str W v _ HBW.out
  rw [e300.2.1] at hsW
  replace c0 := cell_later b6 c0
  replace c1 := cell_later b6 c1
  replace c2 := cell_later b6 c2
  replace d2 := cell_later b6 d2
  replace e2 := cell_later b6 e2
  have hl1 := cell_later b6 hl1'
  clear b6 hbw5 HB5 hl1'
  rw [hW]
  clear hW hcv
  have i0 : (0 : Int) ≤ 1 := by omega
  go_wp2_with fail
  have ne := end_any ⟨#[120, 172, 2]⟩ 3 0 W
  rw [end3] at ne
  refine ne.mono ?_
  clear ne
  rintro e w6 ⟨rfl, hb6⟩
  replace d2 := cell_later hb6 d2
  replace e2 := cell_later hb6 e2
  replace f1 := cell_later hb6 f1
  replace hl1 := cell_later hb6 hl1
  have hbw6 := hbW.trans (hb6.mono hbW.size)
  clear hb6 hbW hsW c0 c1 c2 HBW
  go_wp2_with fail
  refine (size_any 9223372036854775808 _ (by omega) (by omega)).mono ?_
  rw [sizes.1]
  rintro e w' ⟨rfl, rfl⟩
  go_wp2_with fail
  refine (size_any 0 _ (by omega) (by omega)).mono ?_
  rw [sizes.2]
  rintro e w' ⟨rfl, rfl⟩
  go_wp2_with fail
  refine (all_any _ [1, 300] _ (words_two w6 1 300) (by decide) ?_).mono ?_
  · intro k hk
    rcases (by simp at hk; omega : k = 0 ∨ k = 1) with rfl | rfl <;> simp
  rintro e w7 ⟨v7, rfl, ho7, hb7⟩
  rw [e300.2.2.1] at ho7
  have hs7 := run_str w7 v7 _ ho7.bytesAt
  rw [e300.2.2.2] at hs7
  have hbw7 : Below w.heap.size w w7 := (hbw6.alloc hbw6.size _).trans (hb7.mono (by have := hbw6.size; rw [World.size_alloc]; omega))
  clear ho7 hb7 hbw6
  go_wp2_with fail
  go_ret
  exact ⟨rfl, hbw7⟩
end Go.Proofs.Ytpjgemjceikhfaa
