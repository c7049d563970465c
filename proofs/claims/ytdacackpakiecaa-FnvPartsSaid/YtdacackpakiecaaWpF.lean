/- The walk of FnvParts. -/
import Derived.Test.YtdacackpakiecaaFd
import Derived.Laws.Concat
namespace Go.Proofs.Ytdacackpakiecaa
open Go.RowKit
set_option linter.unusedVariables false
set_option linter.unusedSimpArgs false
theorem cat_list (s t : ByteArray) : (s ++ t).data.toList = s.data.toList ++ t.data.toList := by
  rw [ByteArray.data_append, Array.toList_append]
set_option maxHeartbeats 1000000 in
theorem fnvparts_law (s t : ByteArray) (w : World) (hs : s.size ≤ maxLen) (ht : t.size ≤ maxLen) :
    Calls Try.prog 4 #[.string s, .string t] w fun e w' => e = .returned (.bool true) ∧ Below w.heap.size w w' := by
  have HK := Lib.hid awake_any
  have hs0 := hs
  have ht0 := ht
  unfold maxLen at hs ht
  by_cases h5 : 500 < s.size
  · go_enter Try.func4, Try.ntmps4
    go_wp2_with fail
    refine (HK.out _).mono ?_
    rintro y w1 ⟨rfl, hb⟩
    have HB := Lib.hid hb
    clear hb
    go_wp2_with fail
    go_ret
    exact ⟨rfl, HB.out⟩
  · by_cases h6 : 500 < t.size
    · go_enter Try.func4, Try.ntmps4
      go_wp2_with fail
      refine (HK.out _).mono ?_
      rintro y w1 ⟨rfl, hb⟩
      have HB := Lib.hid hb
      clear hb
      go_wp2_with fail
      go_ret
      exact ⟨rfl, HB.out⟩
    · have HS := Lib.hid (fun W => sum_any s hs0 W)
      have hz := sumF_lt s.data.toList fSt (by decide)
      have hsz : (s ++ t).size = s.size + t.size := by simp
      have HC := Lib.hid (fun W => sum_any (s ++ t) (by rw [hsz]; unfold maxLen; omega) W)
      rw [cat_list, sumF_append] at HC
      have hcat : s.size + t.size ≤ 9223372036854775807 := by omega
      clear hsz
      generalize sumF fSt s.data.toList = z at *
      go_enter Try.func4, Try.ntmps4
      go_wp2_with fail
      refine (HS.out _).mono ?_
      rintro y w1 ⟨rfl, hb⟩
      have H1 := Lib.hid hb
      clear hb
      go_wp2_with fail
      go_loop [5, 6] (fun x i => ∃ k : Nat, k ≤ t.size ∧ i = .int .i64 k ∧ x = .int .u64 (sumF z (t.data.toList.take k) : Nat)) (fun _ i => t.size - (intOf i).toNat)
      case atStart => exact ⟨0, Nat.zero_le _, rfl, by rw [List.take_zero, sumF_nil]⟩
      case round =>
        obtain ⟨k, hk, rfl, rfl⟩ := hrel
        by_cases hlt : k < t.size
        · have HS := Lib.hid (sum_step z t k hlt)
          have hx := sumF_lt (t.data.toList.take k) z hz
          have hb : t[k].toNat < 256 := t[k].toNat_lt
          generalize sumF z (t.data.toList.take k) = x at *
          have HA := Lib.hid (add_any x t[k].toNat hx hb)
          go_wp2_with fail
          refine (HA.out _).mono ?_
          rintro y w1 ⟨rfl, rfl⟩
          go_wp2_with fail
          go_round
          case rel => exact ⟨k + 1, by omega, by go_num, by rw [HS.out]⟩
          case measure => simp [intOf]; omega
        · obtain rfl : k = t.size := by omega
          have hW := sum_whole z t
          rw [hW]
          generalize sumF z t.data.toList = x at *
          clear hW
          go_wp2_with fail
          refine (HC.out _).mono ?_
          rintro y w3 ⟨rfl, hb⟩
          have H3 := Lib.hid (H1.out.trans (hb.mono H1.out.size))
          clear hb H1
          go_wp2_with fail
          refine (HK.out _).mono ?_
          rintro y w5 ⟨rfl, hb⟩
          have H5 := Lib.hid (H3.out.trans (hb.mono H3.out.size))
          clear hb H3
          go_wp2_with fail
          go_ret
          exact ⟨rfl, H5.out⟩
end Go.Proofs.Ytdacackpakiecaa
