/- Contracts of the law's long and of the document's Find and Text. -/
import Derived.Test.YtegboojhebhlnaaKb
namespace Go.Proofs.Ytegboojhebhlnaa
open Go.RowKit
set_option linter.unusedVariables false
set_option linter.unusedSimpArgs false
def overF (l : List ByteArray) (M : Int) : Bool := decide (M < totF l)
theorem long_pre (l : List ByteArray) (k : Nat) (t : ByteArray) (h : l[k]? = some t) (M : Int) (hM : M - (totF (l.take k) : Int) - (t.size : Int) < 0) : overF l M = true := by
  have h1 := totF_step l k t h
  have h2 := totF_take l (k + 1)
  unfold overF
  rw [decide_eq_true_eq]
  omega
set_option maxHeartbeats 1000000 in
theorem long_any (v : Value) (l : List ByteArray) (M : Int) (w : World) (hv : StrsAt w v l) (hm : ∀ t ∈ l, t.size ≤ maxLen) (hM0 : 0 ≤ M) (hM1 : M ≤ 1000000) :
    Calls Try.prog 9 #[v, .int .i64 M] w fun e w' => e = .returned (.bool (overF l M)) ∧ w' = w := by
  obtain ⟨al, cap, rfl, hcap, hmx, hc⟩ := hv
  have HC := Lib.hid hc
  have hmx' : l.length ≤ maxLen := by omega
  unfold maxLen at hmx'
  clear hc
  go_enter Try.func9, Try.ntmps9
  go_wp2_with fail
  go_loop [1, 5] (fun m i => ∃ k : Nat, k ≤ l.length ∧ i = .int .i64 k ∧ m = .int .i64 (M - (totF (l.take k) : Int)) ∧ (totF (l.take k) : Int) ≤ M) (fun _ i => l.length - (intOf i).toNat)
  case atStart => exact ⟨0, Nat.zero_le _, rfl, by simp [totF], by simp [totF]; exact hM0⟩
  case round =>
    obtain ⟨k, hk, rfl, rfl, hle⟩ := hrel
    by_cases hlt : k < l.length
    · obtain ⟨t, ht⟩ : ∃ t, l[k]? = some t := ⟨_, List.getElem?_eq_getElem hlt⟩
      obtain ⟨g, off, rfl, hg, hcell⟩ := HC.out k t ht
      have hts := hm t (List.mem_of_getElem? ht)
      unfold maxLen at hts
      have HS := Lib.hid (totF_step l k t ht)
      have HL := Lib.hid (long_pre l k t ht M)
      generalize totF (l.take k) = q at *
      have hw : IntKind.i64.wrap (M - (q : Int) - (t.size : Int)) = M - (q : Int) - (t.size : Int) := by rw [IntKind.wrap_i64] <;> omega
      by_cases hn : M - (q : Int) - (t.size : Int) < 0
      · go_wp2_with fail
        go_ret
        exact ⟨by rw [HL.out hn]; rfl, rfl⟩
      · go_wp2_with fail
        go_round
        case rel => exact ⟨k + 1, by omega, by go_num, by rw [HS.out]; go_num, by rw [HS.out]; omega⟩
        case measure => simp [intOf]; omega
    · obtain rfl : k = l.length := by omega
      rw [List.take_length] at hle
      have HF := Lib.hid (show overF l M = false by unfold overF; rw [decide_eq_false_iff_not]; omega)
      rw [List.take_length]
      go_wp2_with fail
      go_ret
      exact ⟨by rw [HF.out]; rfl, rfl⟩
set_option maxHeartbeats 1000000 in
theorem rtext_any (v : Value) (l : List ByteArray) (w : World) (hv : StrsAt w v l) (ht : totF l ≤ 1000000000) :
    Calls Try.prog 19 #[v] w fun e w' => e = .returned (.string (catF l)) ∧ w' = w := by
  obtain ⟨al, cap, rfl, hcap, hmx, hc⟩ := hv
  have HC := Lib.hid hc
  have hmx' : l.length ≤ maxLen := by omega
  unfold maxLen at hmx'
  clear hc
  go_enter Try.func19, Try.ntmps19
  go_wp2_with fail
  go_loop [3, 4] (fun s i => ∃ k : Nat, k ≤ l.length ∧ i = .int .i64 k ∧ s = .string (catF (l.take k))) (fun _ i => l.length - (intOf i).toNat)
  case atStart => exact ⟨0, Nat.zero_le _, rfl, by simp [catF]; rfl⟩
  case round =>
    obtain ⟨k, hk, rfl, rfl⟩ := hrel
    by_cases hlt : k < l.length
    · obtain ⟨t, htk⟩ : ∃ t, l[k]? = some t := ⟨_, List.getElem?_eq_getElem hlt⟩
      obtain ⟨g, off, rfl, hg, hcell⟩ := HC.out k t htk
      have HS := Lib.hid (catF_step l k t htk)
      have hsum : (catF (l.take k)).size + t.size ≤ 9223372036854775807 := by
        have h1 := totF_step l k t htk
        have h2 := totF_take l (k + 1)
        rw [catF_size]
        omega
      generalize catF (l.take k) = q at *
      go_wp2_with fail
      go_round
      case rel => exact ⟨k + 1, by omega, by go_num, by rw [HS.out]⟩
      case measure => simp [intOf]; omega
    · obtain rfl : k = l.length := by omega
      rw [List.take_length]
      go_wp2_with fail
      go_ret
      exact ⟨rfl, rfl⟩
set_option maxHeartbeats 1000000 in
theorem rfind_any (v : Value) (l : List ByteArray) (s : ByteArray) (w : World) (hv : StrsAt w v l) (ht : totF l ≤ 1000000000) (hs : s.size ≤ 1000000000) :
    Calls Try.prog 14 #[v, .string s] w fun e w' => e = .returned (.tuple #[.agg #[.int .u64 (offV (findF s l 0) : Nat), .int .u32 (lenV (findF s l 0) s : Nat)], .bool (findF s l 0).isSome]) ∧ Below w.heap.size w w' := by
  obtain ⟨al, cap, rfl, hcap, hmx, hc⟩ := hv
  have HC := Lib.hid hc
  have hmx' : l.length ≤ maxLen := by omega
  unfold maxLen at hmx'
  clear hc
  go_enter Try.func14, Try.ntmps14
  go_wp2_with fail
  go_loop [6, 7] (fun m i => ∃ k : Nat, k ≤ l.length ∧ i = .int .i64 k ∧ m = .int .i64 (totF (l.take k) : Nat) ∧ findF s l 0 = findF s (l.drop k) (totF (l.take k))) (fun _ i => l.length - (intOf i).toNat)
  case atStart => exact ⟨0, Nat.zero_le _, rfl, by simp [totF], by simp [totF]⟩
  case round =>
    obtain ⟨k, hk, rfl, rfl, hf⟩ := hrel
    have HF := Lib.hid hf
    clear hf
    by_cases hlt : k < l.length
    · obtain ⟨t, htk⟩ : ∃ t, l[k]? = some t := ⟨_, List.getElem?_eq_getElem hlt⟩
      obtain ⟨g, off, rfl, hg, hcell⟩ := HC.out k t htk
      have hcell' : (w.alloc (.cells #[.int .u64 0, .int .u32 0] 26)).cell? ⟨g, off + k, none⟩ = some (.string t) := vcell_later (Below.alloc (Below.refl _ _) (Nat.le_refl _) _) hcell
      have HS := Lib.hid (totF_step l k t htk)
      have hq1 := totF_step l k t htk
      have hq2 := totF_take l (k + 1)
      have HD := Lib.hid (drop_at l k t htk)
      generalize totF (l.take k) = q at *
      rw [HD.out, findF] at HF
      by_cases he : t = s
      · rw [if_pos he] at HF
        have hy := str_yes he
        go_wp2_with fail
        refine bodyPost_ret (v := .tuple #[.agg #[.int .u64 q, .int .u32 s.size], .bool true]) (results_ct rfl _ _ w.heap.size _ _ _ _ rfl rfl (by simp [go_sem]) (by simp [go_sem]) Try.underlying26 rfl rct_size) rfl ⟨?_, Below.alloc (Below.refl _ _) (Nat.le_refl _) _⟩
        rw [HF.out]
        simp [offV, lenV]
      · rw [if_neg he] at HF
        have hy := str_no he
        go_wp2_with fail
        go_round
        case rel => exact ⟨k + 1, by omega, by go_num, by rw [HS.out]; go_num, by rw [HS.out]; exact HF.out⟩
        case measure => simp [intOf]; omega
    · obtain rfl : k = l.length := by omega
      rw [List.drop_length, findF] at HF
      rw [List.take_length]
      go_wp2_with fail
      refine bodyPost_ret (v := .tuple #[.agg #[.int .u64 0, .int .u32 0], .bool false]) (results_ct rfl _ _ w.heap.size _ _ _ _ rfl rfl (by simp [go_sem]) (by simp [go_sem]) Try.underlying26 rfl rct_size) rfl ⟨?_, Below.alloc (Below.refl _ _) (Nat.le_refl _) _⟩
      rw [HF.out]
      simp [offV, lenV]
end Go.Proofs.Ytegboojhebhlnaa
