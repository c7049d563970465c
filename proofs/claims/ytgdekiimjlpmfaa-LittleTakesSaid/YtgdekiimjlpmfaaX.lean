/- The program's Num, Bytes, Rest and End and the document's own answer alike, for every scan and every number. -/
import Derived.Test.YtgdekiimjlpmfaaV
namespace Go.Proofs.Ytgdekiimjlpmfaa
open Go.RowKit
set_option linter.unusedVariables false
def NumEnd (t : ByteArray) (V P Q : Int) (w : World) (e : Ending) (w' : World) : Prop := e = .returned (.tuple #[.int .u64 V, .agg #[.string t, .int .i64 P, .int .i64 Q]]) ∧ Below w.heap.size w w'
def BytesEnd (t s : ByteArray) (P Q : Int) (w : World) (e : Ending) (w' : World) : Prop := e = .returned (.tuple #[.string s, .agg #[.string t, .int .i64 P, .int .i64 Q]]) ∧ Below w.heap.size w w'
theorem numBad_zero (t : ByteArray) (p q n : Int) (hm : t.size ≤ maxLen) (h : numBad t p q n = 0) : q = 0 ∧ 0 ≤ p ∧ 1 ≤ n ∧ n ≤ 8 ∧ p + n ≤ t.size := by
  have hq : q = 0 := by
    rcases Decidable.em (q = 0) with g | g
    · exact g
    · simp [numBad, firstOf, g] at h
  subst hq
  have hp : 0 ≤ p ∧ p ≤ t.size := by
    rcases Decidable.em (0 ≤ p ∧ p ≤ t.size) with g | g
    · exact g
    · have e : placedV t p = 2 := if_neg g
      simp [numBad, firstOf, e] at h
  have hw : 1 ≤ n ∧ n ≤ 8 := by
    rcases Decidable.em (1 ≤ n ∧ n ≤ 8) with g | g
    · exact g
    · have e : wideV n = 2 := if_neg g
      simp [numBad, firstOf, placed_zero t p hp.1 hp.2, e] at h
  have e : wideV n = 0 := if_pos hw
  have hl : leftV t p n = 0 := by
    rcases Decidable.em (leftV t p n = 0) with g | g
    · exact g
    · simp [numBad, firstOf, placed_zero t p hp.1 hp.2, e, g] at h
  rw [left_in t p n hp.1 hp.2 hm] at hl
  rcases Decidable.em ((t.size : Int) - p < n) with g | g
  · rw [if_pos g] at hl; cases hl
  · exact ⟨rfl, hp.1, hw.1, hw.2, by omega⟩
theorem bytesBad_zero (t : ByteArray) (p q n : Int) (hm : t.size ≤ maxLen) (h : bytesBad t p q n = 0) : q = 0 ∧ 0 ≤ p ∧ 0 ≤ n ∧ p + n ≤ t.size := by
  have hq : q = 0 := by
    rcases Decidable.em (q = 0) with g | g
    · exact g
    · simp [bytesBad, firstOf, g] at h
  subst hq
  have hp : 0 ≤ p ∧ p ≤ t.size := by
    rcases Decidable.em (0 ≤ p ∧ p ≤ t.size) with g | g
    · exact g
    · have e : placedV t p = 2 := if_neg g
      simp [bytesBad, firstOf, e] at h
  have hw : ¬ n < 0 := by
    intro g
    have e : countedV n = 2 := if_pos g
    simp [bytesBad, firstOf, placed_zero t p hp.1 hp.2, e] at h
  have e : countedV n = 0 := if_neg hw
  have hl : leftV t p n = 0 := by
    rcases Decidable.em (leftV t p n = 0) with g | g
    · exact g
    · simp [bytesBad, firstOf, placed_zero t p hp.1 hp.2, e, g] at h
  rw [left_in t p n hp.1 hp.2 hm] at hl
  rcases Decidable.em ((t.size : Int) - p < n) with g | g
  · rw [if_pos g] at hl; cases hl
  · exact ⟨rfl, hp.1, by omega, by omega⟩
theorem num_both (t : ByteArray) (p q n : Int) (hm : t.size ≤ maxLen) : ∃ V P Q, (∀ W, Calls Try.prog 12 #[.agg #[.string t, .int .i64 p, .int .i64 q], .int .i64 n] W (NumEnd t V P Q W)) ∧ (∀ W, Calls Try.prog 13 #[.agg #[.string t, .int .i64 p, .int .i64 q], .int .i64 n] W (NumEnd t V P Q W)) := by
  by_cases h : numBad t p q n = 0
  · obtain ⟨rfl, p0, n0, n1, hp⟩ := numBad_zero t p q n hm h
    exact ⟨_, _, _, fun W => num_yes t p n W hm h p0 n0 n1 hp, fun W => rnum_yes t p n W hm p0 n0 n1 hp⟩
  · exact ⟨_, _, _, fun W => num_no t p q n W h, fun W => rnum_no t p q n W hm h⟩
theorem bytes_both (t : ByteArray) (p q n : Int) (hm : t.size ≤ maxLen) : ∃ s P Q, (∀ W, Calls Try.prog 14 #[.agg #[.string t, .int .i64 p, .int .i64 q], .int .i64 n] W (BytesEnd t s P Q W)) ∧ (∀ W, Calls Try.prog 15 #[.agg #[.string t, .int .i64 p, .int .i64 q], .int .i64 n] W (BytesEnd t s P Q W)) := by
  by_cases h : bytesBad t p q n = 0
  · obtain ⟨rfl, p0, n0, hp⟩ := bytesBad_zero t p q n hm h
    exact ⟨_, _, _, fun W => bytes_yes t p n W hm h p0 n0 hp, fun W => rbytes_yes t p n W hm p0 n0 hp⟩
  · exact ⟨_, _, _, fun W => bytes_no t p q n W h, fun W => rbytes_no t p q n W hm h⟩
def RestEnd (s : ByteArray) (w : World) (e : Ending) (w' : World) : Prop := e = .returned (.string s) ∧ Below w.heap.size w w'
theorem rest_both (t : ByteArray) (p q : Int) (hm : t.size ≤ maxLen) : ∃ s, (∀ W, Calls Try.prog 17 #[.agg #[.string t, .int .i64 p, .int .i64 q]] W (RestEnd s W)) ∧ (∀ W, Calls Try.prog 18 #[.agg #[.string t, .int .i64 p, .int .i64 q]] W (RestEnd s W)) := by
  by_cases hq : q = 0
  · subst hq
    by_cases hp : 0 ≤ p ∧ p ≤ t.size
    · have e : restBad t p 0 = 0 := by simp [restBad, firstOf, placed_zero t p hp.1 hp.2]
      exact ⟨_, fun W => rest_yes t p W hm e hp.1 hp.2, fun W => rrest_yes t p W hm hp.1 hp.2⟩
    · have e : restBad t p 0 ≠ 0 := by
        have : placedV t p = 2 := if_neg hp
        simp [restBad, firstOf, this]
      exact ⟨_, fun W => rest_no t p 0 W e, fun W => rrest_place t p W (by omega)⟩
  · have e : restBad t p q ≠ 0 := by simp [restBad, firstOf, hq]
    exact ⟨_, fun W => rest_no t p q W e, fun W => rrest_bad t p q W hq⟩
end Go.Proofs.Ytgdekiimjlpmfaa
