/- The walk of FnvBuckets. -/
import Derived.Test.YtdacackpakiecaaFd
namespace Go.Proofs.Ytdacackpakiecaa
open Go.RowKit
set_option linter.unusedVariables false
set_option linter.unusedSimpArgs false
theorem bkt_in (z : Nat) (n : Int) : 0 ≤ bktF z n ∧ (n < 1 ∧ bktF z n = 0 ∨ 1 ≤ n ∧ bktF z n < n) := by
  unfold bktF
  by_cases h : n < 1
  · rw [if_pos h]; omega
  · rw [if_neg h]; have := bkt_bound z n (by omega); omega
theorem bkt_one (z : Nat) : bktF z 1 = 0 := by
  have := bkt_in z 1; omega
set_option maxHeartbeats 1000000 in
theorem fnvbuckets_law (s : ByteArray) (n : Int) (w : World) (hs : s.size ≤ maxLen) (n0 : -9223372036854775808 ≤ n) (n1 : n ≤ 9223372036854775807) :
    Calls Try.prog 6 #[.string s, .int .i64 n] w fun e w' => e = .returned (.bool true) ∧ Below w.heap.size w w' := by
  have HK := Lib.hid awake_any
  have hs0 := hs
  unfold maxLen at hs
  by_cases h5 : 500 < s.size
  · go_enter Try.func6, Try.ntmps6
    go_wp2_with fail
    refine (HK.out _).mono ?_
    rintro y w1 ⟨rfl, hb⟩
    have HB := Lib.hid hb
    clear hb
    go_wp2_with fail
    go_ret
    exact ⟨rfl, HB.out⟩
  · have HS := Lib.hid (fun W => bucket_any s hs0 n n0 n1 W)
    have HR := Lib.hid (fun W => bucket_any s hs0 1 (by omega) (by omega) W)
    rw [bkt_one] at HR
    obtain ⟨k0, hk⟩ := bkt_in (sumF fSt s.data.toList) n
    generalize bktF (sumF fSt s.data.toList) n = k at *
    rcases hk with ⟨hn, rfl⟩ | ⟨hn, hk⟩
    all_goals
      go_enter Try.func6, Try.ntmps6
      go_wp2_with fail
      refine (HS.out _).mono ?_
      rintro y w1 ⟨rfl, hb⟩
      have H1 := Lib.hid hb
      clear hb
      go_wp2_with fail
      refine (HR.out _).mono ?_
      rintro y w3 ⟨rfl, hb⟩
      have H3 := Lib.hid (H1.out.trans (hb.mono H1.out.size))
      clear hb H1
      go_wp2_with fail
      refine (HK.out _).mono ?_
      rintro y w5 ⟨rfl, hb⟩
      have H5 := Lib.hid (H3.out.trans (hb.mono H3.out.size))
      clear hb H3
      go_wp2_with fail
      go_ret
      exact ⟨rfl, H5.out⟩
end Go.Proofs.Ytdacackpakiecaa
