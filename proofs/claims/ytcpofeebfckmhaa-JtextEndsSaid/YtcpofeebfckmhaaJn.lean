/- JtextBack: its walk. -/
import Derived.Test.YtcpofeebfckmhaaJm
namespace Go.Proofs.Ytcpofeebfckmhaa
open Go.RowKit
set_option maxRecDepth 20000
set_option linter.unusedVariables false
set_option linter.unusedSimpArgs false
theorem back_longs (s a b : ByteArray) (w : World) (d1 : decide (200 < (s.size : Int)) || decide (200 < (a.size : Int)) || decide (200 < (b.size : Int)) = true) : Calls Try.prog 4 #[.string s, .string a, .string b] w fun e w' => e = .returned (.bool true) ∧ Below w.heap.size w w' := by
  have HA := Lib.hid jawake_any
  by_cases c1 : 200 < s.size
  · have d1 : decide (200 < (s.size : Int)) = true := by simp; omega
    go_enter Try.func4, Try.ntmps4
    go_wp2_with fail
    refine (HA.out _).mono ?_
    rintro e w1 ⟨rfl, hb⟩
    go_wp2_with fail
    go_ret
    exact ⟨rfl, hb⟩
  have e1 : decide (200 < (s.size : Int)) = false := by simp; omega
  by_cases c2 : 200 < a.size
  · have e2 : decide (200 < (a.size : Int)) = true := by simp; omega
    clear d1
    go_enter Try.func4, Try.ntmps4
    go_wp2_with fail
    refine (HA.out _).mono ?_
    rintro e w1 ⟨rfl, hb⟩
    go_wp2_with fail
    go_ret
    exact ⟨rfl, hb⟩
  have e2 : decide (200 < (a.size : Int)) = false := by simp; omega
  have e3 : decide (200 < (b.size : Int)) = true := by rw [e1, e2] at d1; simpa using d1
  clear d1
  go_enter Try.func4, Try.ntmps4
  go_wp2_with fail
  refine (HA.out _).mono ?_
  rintro e w1 ⟨rfl, hb⟩
  go_wp2_with fail
  go_ret
  exact ⟨rfl, hb⟩
theorem back_no (s a b : ByteArray) (w : World) (l1 : s.size ≤ 200) (l2 : a.size ≤ 200) (l3 : b.size ≤ 200) (hc : countP (bI s) < 0) : Calls Try.prog 4 #[.string s, .string a, .string b] w fun e w' => e = .returned (.bool true) ∧ Below w.heap.size w w' := by
  have HA := Lib.hid jawake_any
  have e1 : decide (200 < (s.size : Int)) = false := by simp; omega
  have e2 : decide (200 < (a.size : Int)) = false := by simp; omega
  have e3 : decide (200 < (b.size : Int)) = false := by simp; omega
  have h1 := Lib.hid (fun W => jquote_any s W (by omega))
  have h2 := Lib.hid (fun W => jvalid_any s W (by omega))
  have hq : quoteP (bI s) = ([], 4) := by unfold quoteP; rw [if_pos hc]
  rw [hq] at h1
  dsimp only at h1
  rw [as0] at h1
  rw [decide_eq_false (by omega)] at h2
  have HB0 : Hid (Below w.heap.size w w) := Lib.hid (Below.refl _ _)
  clear hq hc l1 l2 l3
  go_enter Try.func4, Try.ntmps4
  go_wp2_with fail
  refine (h1.out _).mono ?_
  rintro e w1 ⟨rfl, hb⟩
  have HB1 := Lib.hid (HB0.out.trans (hb.mono HB0.out.size))
  clear hb
  go_wp2_with fail
  refine (h2.out _).mono ?_
  rintro e w2 ⟨rfl, hb⟩
  have HB2 := Lib.hid (HB1.out.trans (hb.mono HB1.out.size))
  clear hb
  go_wp2_with fail
  refine (HA.out _).mono ?_
  rintro e w3 ⟨rfl, hb⟩
  have HB3 := Lib.hid (HB2.out.trans (hb.mono HB2.out.size))
  clear hb
  go_wp2_with fail
  go_ret
  exact ⟨rfl, HB3.out⟩
set_option maxHeartbeats 2000000 in
theorem back_yes (s a b : ByteArray) (w : World) (l1 : s.size ≤ 200) (l2 : a.size ≤ 200) (l3 : b.size ≤ 200) (hc : ¬ countP (bI s) < 0) : Calls Try.prog 4 #[.string s, .string a, .string b] w fun e w' => e = .returned (.bool true) ∧ Below w.heap.size w w' := by
  have HA := Lib.hid jawake_any
  have e1 : decide (200 < (s.size : Int)) = false := by simp; omega
  have e2 : decide (200 < (a.size : Int)) = false := by simp; omega
  have e3 : decide (200 < (b.size : Int)) = false := by simp; omega
  obtain ⟨n, hv, hn⟩ := count_of (show 0 ≤ countP (bI s) by omega)
  have h1 := fun W => jquote_any s W (by omega)
  have hq : quoteP (bI s) = (34 :: quoteB (bI s) ++ [34], 0) := by unfold quoteP; rw [if_neg hc]
  rw [hq] at h1
  dsimp only at h1
  have hbq : ∀ x ∈ 34 :: quoteB (bI s) ++ [34], 32 ≤ x ∧ x < 256 := by
    intro x hx
    rw [List.cons_append, List.mem_cons, List.mem_append, List.mem_singleton] at hx
    rcases hx with rfl | hx | rfl
    · omega
    · exact quoteB_byte hv x hx
    · omega
  obtain ⟨q, hqd⟩ : ∃ q, str (34 :: quoteB (bI s) ++ [34]) = q := ⟨_, rfl⟩
  have hbi : bI q = 34 :: quoteB (bI s) ++ [34] := by rw [← hqd]; exact bI_str _ (fun x hx => by have := hbq x hx; omega)
  have hqs : q.size ≤ 1202 := by
    have h3 := quoteB_len (bI s)
    have h4 := bI_len s
    rw [← bI_len, hbi, List.length_append, List.length_cons, List.length_singleton]
    omega
  rw [hqd] at h1
  have hget : ∀ k (hk : k < q.size), ((q[k]'hk).toNat : Int) < 32 → False := by
    intro k hk hlt
    have h3 := bI_get q k hk
    have h4 := hbq _ (by rw [← hbi]; exact List.mem_of_getElem? h3)
    omega
  have htk := take_quote hv (bI a) (bI b)
  rw [← hbi, ← bI_append, ← bI_append, bI_len, bI_len] at htk
  have huq := unq_quote hv
  rw [← hbi] at huq
  have h2 := fun W => jtake_any (a ++ q ++ b) a.size W (by rw [ByteArray.size_append, ByteArray.size_append]; omega) (by rw [ByteArray.size_append, ByteArray.size_append]; omega)
  rw [htk] at h2
  dsimp only at h2
  rw [str_bI] at h2
  have h3 := fun W => junq_any q W (by omega)
  rw [huq] at h3
  dsimp only at h3
  rw [str_bI] at h3
  have h4 := fun W => jcount_any s W (by omega)
  have h5 := fun W => jcount_any b W (by omega)
  have h6 := fun W => jcount_any (s ++ b) W (by rw [ByteArray.size_append]; omega)
  have hle := count_le (bI s)
  rw [bI_len] at hle
  have hse := str_same16 s
  have hapz : ((a.size + q.size : Nat) : Int) = (a.size : Int) + (q.size : Int) := by omega
  rw [hapz] at h2
  have HG := Lib.hid hget
  have h1 := Lib.hid h1
  have h2 := Lib.hid h2
  have h3 := Lib.hid h3
  have h4 := Lib.hid h4
  have h5 := Lib.hid h5
  have HC6 : Hid (0 ≤ countP (bI b) → countP (bI (s ++ b)) = countP (bI s) + countP (bI b)) := Lib.hid (fun hb => by rw [bI_append]; exact count_append (by omega) hb)
  have h6 := Lib.hid h6
  have hcg : -1 ≤ countP (bI b) := countF_ge _ _
  have hcl := count_le (bI b)
  rw [bI_len] at hcl
  obtain ⟨c, hcc⟩ : ∃ c, countP (bI s) = c := ⟨_, rfl⟩
  obtain ⟨m, hmm⟩ : ∃ m, countP (bI b) = m := ⟨_, rfl⟩
  obtain ⟨t, htt⟩ : ∃ t, countP (bI (s ++ b)) = t := ⟨_, rfl⟩
  rw [hcc] at h4 HC6 hle hc
  rw [hmm] at h5 HC6 hcg hcl
  rw [htt] at h6 HC6
  have hc0 : 0 ≤ c := by omega
  have HB0 : Hid (Below w.heap.size w w) := Lib.hid (Below.refl _ _)
  have hqz : ((0 : Int) != 0) = false := rfl
  clear hq hbq hbi hqd hget htk huq hcc hmm htt hc hv hn hapz
  by_cases hm0 : 0 ≤ m
  · have d5 : decide (0 ≤ m) = true := decide_eq_true hm0
    have ht := HC6.out hm0
    have d6 : (t != c + m) = false := by rw [ht]; simp
    have hw : IntKind.i64.wrap (c + m) = c + m := by rw [IntKind.wrap_i64]; omega
    clear ht HC6
    go_enter Try.func4, Try.ntmps4
    go_wp2_with fail
    refine (h1.out _).mono ?_
    rintro e w1 ⟨rfl, hb⟩
    have HB1 := Lib.hid (HB0.out.trans (hb.mono HB0.out.size))
    clear hb
    go_wp2_with fail
    go_loop [9] (fun i => ∃ k : Nat, k ≤ q.size ∧ i = .int .i64 k) (fun i => q.size - (intOf' i).toNat)
    case atStart => exact ⟨0, Nat.zero_le _, rfl⟩
    case round =>
      obtain ⟨k, hk, rfl⟩ := hrel
      by_cases hlt : k < q.size
      · have hi2 : (k : Int) < (q.size : Int) := by omega
        have hnb : decide (((q[k]'hlt).toNat : Int) < 32) = false := decide_eq_false (fun h => HG.out k hlt h)
        go_wp2_with fail
        go_round
        case rel => exact ⟨k + 1, by omega, by first | rfl | go_num | (push_cast; rfl)⟩
        case measure => simp [intOf']; omega
      · obtain rfl : k = q.size := by omega
        go_wp2_with fail
        refine (h2.out _).mono ?_
        rintro e w2 ⟨rfl, hb⟩
        have HB2 := Lib.hid (HB1.out.trans (hb.mono HB1.out.size))
        clear hb
        go_wp2_with fail
        refine (h3.out _).mono ?_
        rintro e w3 ⟨rfl, hb⟩
        have HB3 := Lib.hid (HB2.out.trans (hb.mono HB2.out.size))
        clear hb
        go_wp2_with fail
        refine (h4.out _).mono ?_
        rintro e w4 ⟨rfl, hb⟩
        have HB4 := Lib.hid (HB3.out.trans (hb.mono HB3.out.size))
        clear hb
        go_wp2_with fail
        refine (h5.out _).mono ?_
        rintro e w5 ⟨rfl, hb⟩
        have HB5 := Lib.hid (HB4.out.trans (hb.mono HB4.out.size))
        clear hb
        go_wp2_with fail
        refine (h6.out _).mono ?_
        rintro e w6 ⟨rfl, hb⟩
        have HB6 := Lib.hid (HB5.out.trans (hb.mono HB5.out.size))
        clear hb
        go_wp2_with fail
        refine (HA.out _).mono ?_
        rintro e w7 ⟨rfl, hb⟩
        have HB7 := Lib.hid (HB6.out.trans (hb.mono HB6.out.size))
        clear hb
        go_wp2_with fail
        go_ret
        exact ⟨rfl, HB7.out⟩
  · have d5 : decide (0 ≤ m) = false := decide_eq_false hm0
    clear HC6
    go_enter Try.func4, Try.ntmps4
    go_wp2_with fail
    refine (h1.out _).mono ?_
    rintro e w1 ⟨rfl, hb⟩
    have HB1 := Lib.hid (HB0.out.trans (hb.mono HB0.out.size))
    clear hb
    go_wp2_with fail
    go_loop [9] (fun i => ∃ k : Nat, k ≤ q.size ∧ i = .int .i64 k) (fun i => q.size - (intOf' i).toNat)
    case atStart => exact ⟨0, Nat.zero_le _, rfl⟩
    case round =>
      obtain ⟨k, hk, rfl⟩ := hrel
      by_cases hlt : k < q.size
      · have hi2 : (k : Int) < (q.size : Int) := by omega
        have hnb : decide (((q[k]'hlt).toNat : Int) < 32) = false := decide_eq_false (fun h => HG.out k hlt h)
        go_wp2_with fail
        go_round
        case rel => exact ⟨k + 1, by omega, by first | rfl | go_num | (push_cast; rfl)⟩
        case measure => simp [intOf']; omega
      · obtain rfl : k = q.size := by omega
        go_wp2_with fail
        refine (h2.out _).mono ?_
        rintro e w2 ⟨rfl, hb⟩
        have HB2 := Lib.hid (HB1.out.trans (hb.mono HB1.out.size))
        clear hb
        go_wp2_with fail
        refine (h3.out _).mono ?_
        rintro e w3 ⟨rfl, hb⟩
        have HB3 := Lib.hid (HB2.out.trans (hb.mono HB2.out.size))
        clear hb
        go_wp2_with fail
        refine (h4.out _).mono ?_
        rintro e w4 ⟨rfl, hb⟩
        have HB4 := Lib.hid (HB3.out.trans (hb.mono HB3.out.size))
        clear hb
        go_wp2_with fail
        refine (h5.out _).mono ?_
        rintro e w5 ⟨rfl, hb⟩
        have HB5 := Lib.hid (HB4.out.trans (hb.mono HB4.out.size))
        clear hb
        go_wp2_with fail
        refine (HA.out _).mono ?_
        rintro e w6 ⟨rfl, hb⟩
        have HB6 := Lib.hid (HB5.out.trans (hb.mono HB5.out.size))
        clear hb
        go_wp2_with fail
        go_ret
        exact ⟨rfl, HB6.out⟩
theorem jtextback_law (s a b : ByteArray) (w : World) (h1 : s.size ≤ maxLen) (h2 : a.size ≤ maxLen) (h3 : b.size ≤ maxLen) : Calls Try.prog 4 #[.string s, .string a, .string b] w fun e w' => e = .returned (.bool true) ∧ Below w.heap.size w w' := by
  by_cases l1 : 200 < s.size
  · exact back_longs s a b w (by simp; omega)
  by_cases l2 : 200 < a.size
  · exact back_longs s a b w (by simp; omega)
  by_cases l3 : 200 < b.size
  · exact back_longs s a b w (by simp; omega)
  by_cases hc : countP (bI s) < 0
  · exact back_no s a b w (by omega) (by omega) (by omega) hc
  · exact back_yes s a b w (by omega) (by omega) (by omega) hc
end Go.Proofs.Ytcpofeebfckmhaa
