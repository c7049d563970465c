/- The document's Bytes. -/
import Derived.Test.YtcpofeebfckmhaaJe
namespace Go.Proofs.Ytcpofeebfckmhaa
open Go.RowKit
set_option maxRecDepth 20000
set_option linter.unusedVariables false
set_option linter.unusedSimpArgs false
theorem built_at (w : World) (cs : List Int) (T : TypeId) (hl : cs.length ≤ 1000) : BytesAt (w.alloc (.cells (cs.map (Value.int .u8)).toArray T)) (.slice (some ⟨w.heap.size, 0, none⟩) cs.length cs.length) cs := by
  refine ⟨_, _, rfl, Nat.le_refl _, by unfold maxLen; omega, fun h0 => ⟨_, rfl, by simp, fun i hi => ?_⟩⟩
  have e : (⟨w.heap.size, 0, none⟩ : Addr).add i = ⟨w.heap.size, i, none⟩ := by simp [Addr.add]; omega
  rw [e, World.cell?_alloc_mark]
  simp [hi]
/-- A literal of bytes becomes a text. -/
theorem run_built (w : World) (cs : List Int) (T : TypeId) (hl : cs.length ≤ 1000) : (convert 35 9 (.slice (some ⟨w.heap.size, 0, none⟩) cs.length cs.length)).run Try.prog (w.alloc (.cells (cs.map (Value.int .u8)).toArray T)) = .ok (.string (str cs)) (w.alloc (.cells (cs.map (Value.int .u8)).toArray T)) := run_str _ _ _ (built_at w cs T hl)
theorem enc_1 {c : Int} (h0 : 0 ≤ c) (h1 : c < 128) : encC c = [c] := by
  unfold encC; rw [if_neg (by omega), if_pos h1]
theorem enc_2 {c : Int} (h0 : 128 ≤ c) (h1 : c < 2048) : encC c = [192 + c / 64, 128 + c % 64] := by
  unfold encC; rw [if_neg (by omega), if_neg (by omega), if_pos h1]
theorem enc_3 {c : Int} (h0 : 2048 ≤ c) (h1 : c < 65536) (h2 : ¬ (55296 ≤ c ∧ c ≤ 57343)) : encC c = [224 + c / 4096, 128 + c / 64 % 64, 128 + c % 64] := by
  unfold encC; rw [if_neg (by omega), if_neg (by omega), if_neg (by omega), if_pos h1]
theorem enc_4 {c : Int} (h0 : 65536 ≤ c) (h1 : c ≤ 1114111) : encC c = [240 + c / 262144, 128 + c / 4096 % 64, 128 + c / 64 % 64, 128 + c % 64] := by
  unfold encC; rw [if_neg (by omega), if_neg (by omega), if_neg (by omega), if_neg (by omega)]
set_option maxHeartbeats 2000000 in
theorem rbytes_any (c : Int) (w : World) (hc : -9223372036854775808 ≤ c ∧ c ≤ 9223372036854775807) : Calls Try.prog 26 #[.int .i64 c] w fun e w' => e = .returned (.string (str (encC c))) ∧ Below w.heap.size w w' := by
  by_cases h0 : c < 0
  · rw [(encC_nil c).2 (.inl h0)]
    have d0 : decide (c < 0) = true := decide_eq_true h0
    go_enter Try.func26, Try.ntmps26
    go_wp2_with fail
    go_ret
    exact ⟨rfl, Below.refl _ _⟩
  have d0 : decide (c < 0) = false := decide_eq_false h0
  by_cases h1 : 1114111 < c
  · rw [(encC_nil c).2 (.inr (.inl h1))]
    have d1 : decide (1114111 < c) = true := decide_eq_true h1
    go_enter Try.func26, Try.ntmps26
    go_wp2_with fail
    go_ret
    exact ⟨rfl, Below.refl _ _⟩
  have d1 : decide (1114111 < c) = false := decide_eq_false h1
  by_cases h2 : 55296 ≤ c ∧ c ≤ 57343
  · rw [(encC_nil c).2 (.inr (.inr h2))]
    have d2 : decide (55296 ≤ c) = true := decide_eq_true h2.1
    have d3 : decide (c ≤ 57343) = true := decide_eq_true h2.2
    go_enter Try.func26, Try.ntmps26
    go_wp2_with fail
    go_ret
    exact ⟨rfl, Below.refl _ _⟩
  have hr : ∀ cs : List Int, cs.length ≤ 1000 → _ := fun cs h => run_built w cs 5 h
  by_cases h3 : c < 128
  · rw [enc_1 (by omega) h3]
    have d2 : decide (55296 ≤ c) = false := decide_eq_false (by omega)
    have w1 : IntKind.u8.wrap c = c := by rw [IntKind.wrap_u8]; omega
    have hx := hr [c] (by simp)
    simp only [List.map_cons, List.map_nil, List.length_cons, List.length_nil, Nat.zero_add] at hx
    clear hr
    go_enter Try.func26, Try.ntmps26
    go_wp2_with fail
    go_ret
    exact ⟨rfl, by go_grown⟩
  by_cases h4 : c < 2048
  · rw [enc_2 (by omega) h4]
    have d2 : decide (55296 ≤ c) = false := decide_eq_false (by omega)
    have w1 : IntKind.u8.wrap (192 + c / 64) = 192 + c / 64 := by rw [IntKind.wrap_u8]; omega
    have w2 : IntKind.u8.wrap (128 + c % 64) = 128 + c % 64 := by rw [IntKind.wrap_u8]; omega
    have hx := hr [192 + c / 64, 128 + c % 64] (by simp)
    simp only [List.map_cons, List.map_nil, List.length_cons, List.length_nil, Nat.zero_add] at hx
    clear hr
    go_enter Try.func26, Try.ntmps26
    go_wp2_with fail
    go_ret
    exact ⟨rfl, by go_grown⟩
  by_cases h5 : c < 65536
  · rw [enc_3 (by omega) h5 h2]
    have w1 : IntKind.u8.wrap (224 + c / 4096) = 224 + c / 4096 := by rw [IntKind.wrap_u8]; omega
    have w2 : IntKind.u8.wrap (128 + c / 64 % 64) = 128 + c / 64 % 64 := by rw [IntKind.wrap_u8]; omega
    have w3 : IntKind.u8.wrap (128 + c % 64) = 128 + c % 64 := by rw [IntKind.wrap_u8]; omega
    have hx := hr [224 + c / 4096, 128 + c / 64 % 64, 128 + c % 64] (by simp)
    simp only [List.map_cons, List.map_nil, List.length_cons, List.length_nil, Nat.zero_add] at hx
    clear hr
    by_cases h6 : 55296 ≤ c
    · have d2 : decide (55296 ≤ c) = true := decide_eq_true h6
      have d3 : decide (c ≤ 57343) = false := decide_eq_false (by omega)
      go_enter Try.func26, Try.ntmps26
      go_wp2_with fail
      go_ret
      exact ⟨rfl, by go_grown⟩
    · have d2 : decide (55296 ≤ c) = false := decide_eq_false h6
      go_enter Try.func26, Try.ntmps26
      go_wp2_with fail
      go_ret
      exact ⟨rfl, by go_grown⟩
  rw [enc_4 (by omega) (by omega)]
  have d2 : decide (55296 ≤ c) = true := decide_eq_true (by omega)
  have d3 : decide (c ≤ 57343) = false := decide_eq_false (by omega)
  have w1 : IntKind.u8.wrap (240 + c / 262144) = 240 + c / 262144 := by rw [IntKind.wrap_u8]; omega
  have w2 : IntKind.u8.wrap (128 + c / 4096 % 64) = 128 + c / 4096 % 64 := by rw [IntKind.wrap_u8]; omega
  have w3 : IntKind.u8.wrap (128 + c / 64 % 64) = 128 + c / 64 % 64 := by rw [IntKind.wrap_u8]; omega
  have w4 : IntKind.u8.wrap (128 + c % 64) = 128 + c % 64 := by rw [IntKind.wrap_u8]; omega
  have hx := hr [240 + c / 262144, 128 + c / 4096 % 64, 128 + c / 64 % 64, 128 + c % 64] (by simp)
  simp only [List.map_cons, List.map_nil, List.length_cons, List.length_nil, Nat.zero_add] at hx
  clear hr
  go_enter Try.func26, Try.ntmps26
  go_wp2_with fail
  go_ret
  exact ⟨rfl, by go_grown⟩
end Go.Proofs.Ytcpofeebfckmhaa
