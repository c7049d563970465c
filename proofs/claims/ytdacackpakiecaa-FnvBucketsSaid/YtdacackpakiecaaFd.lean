/- What every right program tells of some texts. -/
import Derived.Test.YtdacackpakiecaaFc
namespace Go.Proofs.Ytdacackpakiecaa
open Go.RowKit
set_option linter.unusedVariables false
set_option linter.unusedSimpArgs false
def tA : ByteArray := { data := #[97] }
def tO : ByteArray := { data := #[] }
theorem sum_a : ((sumF fSt tA.data.toList : Nat) : Int) = 12638187200555641996 := by decide +kernel
theorem sum_o : ((sumF fSt tO.data.toList : Nat) : Int) = 14695981039346656037 := by decide +kernel
theorem bkt_a : bktF (sumF fSt tA.data.toList) 10 = 6 := by decide +kernel
theorem bkt_o : bktF (sumF fSt tA.data.toList) 0 = 0 := by decide +kernel
theorem add_a : ((addF 14695981039346656037 97 : Nat) : Int) = 12638187200555641996 := by decide +kernel
theorem at_a (w : World) : Calls Try.prog 8 #[.string { data := #[97] }] w fun e w' => e = .returned (.int .u64 12638187200555641996) ∧ Below w.heap.size w w' := by
  have := sum_any tA (by decide +kernel) w
  rw [sum_a] at this
  exact this
theorem at_o (w : World) : Calls Try.prog 8 #[.string { data := #[] }] w fun e w' => e = .returned (.int .u64 14695981039346656037) ∧ Below w.heap.size w w' := by
  have := sum_any tO (by decide +kernel) w
  rw [sum_o] at this
  exact this
theorem at_b (w : World) : Calls Try.prog 12 #[.string { data := #[97] }, .int .i64 10] w fun e w' => e = .returned (.int .i64 6) ∧ Below w.heap.size w w' := by
  have := bucket_any tA (by decide +kernel) 10 (by omega) (by omega) w
  rw [bkt_a] at this
  exact this
theorem at_z (w : World) : Calls Try.prog 12 #[.string { data := #[97] }, .int .i64 0] w fun e w' => e = .returned (.int .i64 0) ∧ Below w.heap.size w w' := by
  have := bucket_any tA (by decide +kernel) 0 (by omega) (by omega) w
  rw [bkt_o] at this
  exact this
theorem at_d (w : World) : Calls Try.prog 10 #[.int .u64 14695981039346656037, .int .u8 97] w fun e w' => e = .returned (.int .u64 12638187200555641996) ∧ Below w.heap.size w w' := by
  have := add_any 14695981039346656037 97 (by decide) (by decide) w
  rw [add_a] at this
  refine Calls.mono this ?_
  rintro e w1 ⟨rfl, rfl⟩
  exact ⟨rfl, Below.refl _ _⟩
set_option maxHeartbeats 1000000 in
theorem awake_any (w : World) : Calls Try.prog 7 #[] w fun e w' => e = .returned (.bool true) ∧ Below w.heap.size w w' := by
  have HA := Lib.hid at_a
  have HO := Lib.hid at_o
  have HD := Lib.hid at_d
  have HB := Lib.hid at_b
  have HZ := Lib.hid at_z
  go_enter Try.func7, Try.ntmps7
  go_wp2_with fail
  refine (HA.out _).mono ?_
  rintro y w1 ⟨rfl, hb⟩
  have H1 := Lib.hid hb
  clear hb
  go_wp2_with fail
  refine (HO.out _).mono ?_
  rintro y w2 ⟨rfl, hb⟩
  have H2 := Lib.hid (H1.out.trans (hb.mono H1.out.size))
  clear hb H1
  go_wp2_with fail
  refine (HD.out _).mono ?_
  rintro y w3 ⟨rfl, hb⟩
  have H3 := Lib.hid (H2.out.trans (hb.mono H2.out.size))
  clear hb H2
  go_wp2_with fail
  refine (HA.out _).mono ?_
  rintro y w4 ⟨rfl, hb⟩
  have H4 := Lib.hid (H3.out.trans (hb.mono H3.out.size))
  clear hb H3
  go_wp2_with fail
  refine (HB.out _).mono ?_
  rintro y w5 ⟨rfl, hb⟩
  have H5 := Lib.hid (H4.out.trans (hb.mono H4.out.size))
  clear hb H4
  go_wp2_with fail
  refine (HZ.out _).mono ?_
  rintro y w6 ⟨rfl, hb⟩
  have H6 := Lib.hid (H5.out.trans (hb.mono H5.out.size))
  clear hb H5
  go_wp2_with fail
  go_ret
  exact ⟨rfl, H6.out⟩
end Go.Proofs.Ytdacackpakiecaa
