/- The program's small functions: isLost, letterOf, runeOf, digit. -/
import Derived.Test.YtcpofeebfckmhaaJr
namespace Go.Proofs.Ytcpofeebfckmhaa
open Go.RowKit
set_option maxRecDepth 20000
set_option linter.unusedVariables false
set_option linter.unusedSimpArgs false
def lostB (s : ByteArray) (r : Int) : Bool := decide (r = 65533) && !(Lib.hasPrefix s.data.toList [239, 191, 189])
set_option maxHeartbeats 1000000 in
theorem islost_any (s : ByteArray) (r : Int) (w : World) : Calls Try.prog 15 #[.string s, .int .i32 r] w fun e w' => e = .returned (.bool (lostB s r)) ∧ Below w.heap.size w w' := by
  by_cases hr : r = 65533
  · have e : lostB s r = !(Lib.hasPrefix s.data.toList [239, 191, 189]) := by unfold lostB; rw [decide_eq_true hr, Bool.true_and]
    rw [e]
    subst hr
    have H := Lib.hid (fun W => hp_any s { data := #[239, 191, 189] } W)
    go_enter Try.func15, Try.ntmps15
    go_wp2_with fail
    refine (H.out _).mono ?_
    rintro e w' ⟨rfl, rfl⟩
    go_wp2_with fail
    go_ret
    exact ⟨rfl, by go_grown⟩
  · have e : lostB s r = false := by unfold lostB; rw [decide_eq_false hr, Bool.false_and]
    rw [e]
    go_enter Try.func15, Try.ntmps15
    go_wp2_with fail
    go_ret
    exact ⟨rfl, by go_grown⟩
def letterP (c : Int) : Int := if c = 34 then 34 else if c = 92 then 92 else if c = 8 then 98 else if c = 9 then 116 else if c = 10 then 110 else if c = 12 then 102 else if c = 13 then 114 else 0
set_option maxHeartbeats 2000000 in
theorem letter_any (c : Int) (w : World) : Calls Try.prog 23 #[.int .i32 c] w fun e w' => e = .returned (.int .i32 (letterP c)) ∧ Below w.heap.size w w' := by
  go_enter Try.func23, Try.ntmps23
  unfold letterP
  by_cases h1 : c = 34
  · subst h1; go_wp2_with fail; go_ret; exact ⟨rfl, by go_grown⟩
  by_cases h2 : c = 92
  · subst h2; go_wp2_with fail; go_ret; exact ⟨rfl, by go_grown⟩
  by_cases h3 : c = 8
  · subst h3; go_wp2_with fail; go_ret; exact ⟨rfl, by go_grown⟩
  by_cases h4 : c = 9
  · subst h4; go_wp2_with fail; go_ret; exact ⟨rfl, by go_grown⟩
  by_cases h5 : c = 10
  · subst h5; go_wp2_with fail; go_ret; exact ⟨rfl, by go_grown⟩
  by_cases h6 : c = 12
  · subst h6; go_wp2_with fail; go_ret; exact ⟨rfl, by go_grown⟩
  by_cases h7 : c = 13
  · subst h7; go_wp2_with fail; go_ret; exact ⟨rfl, by go_grown⟩
  rw [if_neg h1, if_neg h2, if_neg h3, if_neg h4, if_neg h5, if_neg h6, if_neg h7]
  go_wp2_with fail; go_ret; exact ⟨rfl, by go_grown⟩
def twoR (b : Int) : Int := if b = 34 then 34 else if b = 92 then 92 else if b = 47 then 47 else if b = 98 then 8 else if b = 102 then 12 else if b = 110 then 10 else if b = 114 then 13 else if b = 116 then 9 else 0
theorem two_r (b : Int) : twoP b = if twoR b = 0 then none else some (twoR b) := by
  unfold twoP twoR
  repeat' split
  all_goals first | rfl | omega
set_option maxHeartbeats 2000000 in
theorem two_any (c : Int) (w : World) : Calls Try.prog 32 #[.int .i32 c] w fun e w' => e = .returned (.int .i32 (twoR c)) ∧ Below w.heap.size w w' := by
  go_enter Try.func32, Try.ntmps32
  unfold twoR
  by_cases h1 : c = 34
  · subst h1; go_wp2_with fail; go_ret; exact ⟨rfl, by go_grown⟩
  by_cases h2 : c = 92
  · subst h2; go_wp2_with fail; go_ret; exact ⟨rfl, by go_grown⟩
  by_cases h3 : c = 47
  · subst h3; go_wp2_with fail; go_ret; exact ⟨rfl, by go_grown⟩
  by_cases h4 : c = 98
  · subst h4; go_wp2_with fail; go_ret; exact ⟨rfl, by go_grown⟩
  by_cases h5 : c = 102
  · subst h5; go_wp2_with fail; go_ret; exact ⟨rfl, by go_grown⟩
  by_cases h6 : c = 110
  · subst h6; go_wp2_with fail; go_ret; exact ⟨rfl, by go_grown⟩
  by_cases h7 : c = 114
  · subst h7; go_wp2_with fail; go_ret; exact ⟨rfl, by go_grown⟩
  by_cases h8 : c = 116
  · subst h8; go_wp2_with fail; go_ret; exact ⟨rfl, by go_grown⟩
  rw [if_neg h1, if_neg h2, if_neg h3, if_neg h4, if_neg h5, if_neg h6, if_neg h7, if_neg h8]
  go_wp2_with fail; go_ret; exact ⟨rfl, by go_grown⟩
set_option maxHeartbeats 2000000 in
theorem digit_any (c : Int) (w : World) (h0 : -1000 ≤ c) (hm : c ≤ 2000000) : Calls Try.prog 36 #[.int .i32 c] w fun e w' => e = .returned (.int .i32 (digP c)) ∧ Below w.heap.size w w' := by
  go_enter Try.func36, Try.ntmps36
  unfold digP
  by_cases h1 : 48 ≤ c ∧ c ≤ 57
  · obtain ⟨a, b⟩ := h1
    have wr : IntKind.i32.wrap (c - 48) = c - 48 := by rw [IntKind.wrap_i32]; omega
    rw [if_pos ⟨a, b⟩]; go_wp2_with fail; go_ret; exact ⟨rfl, by go_grown⟩
  by_cases h2 : 97 ≤ c ∧ c ≤ 102
  · obtain ⟨a, b⟩ := h2
    have g1 : ¬ c ≤ 57 := by omega
    have g0 : (48 : Int) ≤ c := by omega
    have wr : IntKind.i32.wrap (c - 97) = c - 97 := by rw [IntKind.wrap_i32]; omega
    have wr2 : IntKind.i32.wrap (c - 97 + 10) = c - 87 := by rw [IntKind.wrap_i32]; omega
    rw [if_neg h1, if_pos ⟨a, b⟩]; clear h1; go_wp2_with fail; go_ret; exact ⟨rfl, by go_grown⟩
  by_cases h3 : 65 ≤ c ∧ c ≤ 70
  · obtain ⟨a, b⟩ := h3
    have g1 : ¬ c ≤ 57 := by omega
    have g0 : (48 : Int) ≤ c := by omega
    have g2 : ¬ (97 : Int) ≤ c := by omega
    have wr : IntKind.i32.wrap (c - 65) = c - 65 := by rw [IntKind.wrap_i32]; omega
    have wr2 : IntKind.i32.wrap (c - 65 + 10) = c - 55 := by rw [IntKind.wrap_i32]; omega
    rw [if_neg h1, if_neg h2, if_pos ⟨a, b⟩]; clear h1 h2; go_wp2_with fail; go_ret; exact ⟨rfl, by go_grown⟩
  rw [if_neg h1, if_neg h2, if_neg h3]
  by_cases a1 : c < 48
  · have q1 : ¬ (48 : Int) ≤ c := by omega
    have q2 : ¬ (97 : Int) ≤ c := by omega
    have q3 : ¬ (65 : Int) ≤ c := by omega
    clear h1 h2 h3
    go_wp2_with fail; go_ret; exact ⟨rfl, by go_grown⟩
  have q1 : (48 : Int) ≤ c := by omega
  have q2 : ¬ c ≤ (57 : Int) := by omega
  by_cases a2 : c < 65
  · have q3 : ¬ (97 : Int) ≤ c := by omega
    have q4 : ¬ (65 : Int) ≤ c := by omega
    clear h1 h2 h3
    go_wp2_with fail; go_ret; exact ⟨rfl, by go_grown⟩
  have q5 : (65 : Int) ≤ c := by omega
  have q6 : ¬ c ≤ (70 : Int) := by omega
  by_cases a3 : c < 97
  · have q3 : ¬ (97 : Int) ≤ c := by omega
    clear h1 h2 h3
    go_wp2_with fail; go_ret; exact ⟨rfl, by go_grown⟩
  have q7 : (97 : Int) ≤ c := by omega
  have q8 : ¬ c ≤ (102 : Int) := by omega
  clear h1 h2 h3
  go_wp2_with fail; go_ret; exact ⟨rfl, by go_grown⟩
end Go.Proofs.Ytcpofeebfckmhaa
