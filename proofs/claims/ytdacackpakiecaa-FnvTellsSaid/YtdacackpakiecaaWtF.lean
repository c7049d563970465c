/- The walk of FnvTells. -/
import Derived.Test.YtdacackpakiecaaFd
namespace Go.Proofs.Ytdacackpakiecaa
open Go.RowKit
set_option linter.unusedVariables false
set_option linter.unusedSimpArgs false
set_option maxHeartbeats 1000000 in
theorem fnvtells_law (s : ByteArray) (x n : Int) (w : World) (hs : s.size ≤ maxLen) (x0 : 0 ≤ x) (x1 : x ≤ 18446744073709551615) (n0 : -9223372036854775808 ≤ n) (n1 : n ≤ 9223372036854775807) :
    Calls Try.prog 3 #[.string s, .int .u64 x, .int .i64 n] w fun e w' => e = .returned (.bool true) ∧ Below w.heap.size w w' := by
  have HK := Lib.hid awake_any
  have hs0 := hs
  unfold maxLen at hs
  by_cases h5 : 500 < s.size
  · go_enter Try.func3, Try.ntmps3
    go_wp2_with fail
    refine (HK.out _).mono ?_
    rintro y w1 ⟨rfl, hb⟩
    have HB := Lib.hid hb
    clear hb
    go_wp2_with fail
    go_ret
    exact ⟨rfl, HB.out⟩
  · obtain ⟨u, rfl⟩ : ∃ u : Nat, x = u := ⟨x.toNat, by omega⟩
    obtain ⟨b, hb⟩ : ∃ b : Nat, (b : Int) = n % 256 := ⟨(n % 256).toNat, by omega⟩
    have hb2 : b < 256 := by omega
    have hw : IntKind.u8.wrap n = (b : Int) := by rw [IntKind.wrap_u8]; omega
    have HS := Lib.hid (fun W => sum_any s hs0 W)
    have HR := Lib.hid (fun W => rsum_any s hs0 W)
    have HA := Lib.hid (fun W => add_any u b (by omega) hb2 W)
    have HQ := Lib.hid (fun W => radd_any u b (by omega) hb2 W)
    have HT := Lib.hid (fun W => bucket_any s hs0 n n0 n1 W)
    have HV := Lib.hid (fun W => rbucket_any s hs0 n n0 n1 W)
    generalize sumF fSt s.data.toList = z at *
    generalize addF u b = a at *
    generalize bktF z n = k at *
    clear hb
    go_enter Try.func3, Try.ntmps3
    go_wp2_with fail
    refine (HS.out _).mono ?_
    rintro y w1 ⟨rfl, hb⟩
    have H1 := Lib.hid hb
    clear hb
    go_wp2_with fail
    refine (HR.out _).mono ?_
    rintro y w2 ⟨rfl, rfl⟩
    go_wp2_with fail
    refine (HA.out _).mono ?_
    rintro y w2 ⟨rfl, rfl⟩
    go_wp2_with fail
    refine (HQ.out _).mono ?_
    rintro y w2 ⟨rfl, rfl⟩
    go_wp2_with fail
    refine (HT.out _).mono ?_
    rintro y w3 ⟨rfl, hb⟩
    have H3 := Lib.hid (H1.out.trans (hb.mono H1.out.size))
    clear hb H1
    go_wp2_with fail
    refine (HV.out _).mono ?_
    rintro y w4 ⟨rfl, rfl⟩
    go_wp2_with fail
    refine (HK.out _).mono ?_
    rintro y w5 ⟨rfl, hb⟩
    have H5 := Lib.hid (H3.out.trans (hb.mono H3.out.size))
    clear hb H3
    go_wp2_with fail
    go_ret
    exact ⟨rfl, H5.out⟩
end Go.Proofs.Ytdacackpakiecaa
