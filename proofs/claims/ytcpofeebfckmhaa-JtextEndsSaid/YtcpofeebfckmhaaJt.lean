/- The program's unit: the code of a mark with digits. -/
import Derived.Test.YtcpofeebfckmhaaJs
import Derived.LoopTactic
namespace Go.Proofs.Ytcpofeebfckmhaa
open Go.RowKit
set_option maxRecDepth 20000
set_option linter.unusedVariables false
set_option linter.unusedSimpArgs false
def rest2 (s : ByteArray) : ByteArray := ⟨(s.data.toList.drop 2).toArray⟩
theorem rest2_bI (s : ByteArray) : bI (rest2 s) = (bI s).drop 2 := by
  unfold bI rest2
  rw [List.map_drop]
theorem trim_yes (s : ByteArray) (h : Lib.hasPrefix s.data.toList [92, 117] = true) : (⟨(Lib.trimPrefix s.data.toList [92, 117]).toArray⟩ : ByteArray) = rest2 s := by
  unfold Lib.trimPrefix rest2; rw [if_pos h]; rfl
theorem pre_yes (s : ByteArray) (h : Lib.hasPrefix s.data.toList [92, 117] = true) : bI s = 92 :: 117 :: bI (rest2 s) := by
  obtain ⟨t, ht⟩ := (map_pre _ _).1 h
  rw [rest2_bI]
  unfold bI
  rw [ht]; rfl
theorem pre_no (s : ByteArray) (h : Lib.hasPrefix s.data.toList [92, 117] = false) : ¬ ∃ t, bI s = 92 :: 117 :: t := by
  rintro ⟨t, ht⟩
  have : Lib.hasPrefix s.data.toList [92, 117] = true := (map_pre _ _).2 ⟨t, ht⟩
  rw [this] at h; cases h
theorem of_yes (s : ByteArray) (h0 : Lib.hasPrefix s.data.toList [92, 117] = false) (h : Lib.hasPrefix [92, 117] s.data.toList = true) : bI s = [] ∨ bI s = [92] := by
  obtain ⟨t, ht⟩ := (map_pre _ _).1 h
  have e : [(92 : Int), 117] = bI s ++ t := ht
  have n := pre_no s h0
  cases hb : bI s with
  | nil => exact Or.inl rfl
  | cons a u =>
    rw [hb] at e
    injection e with e1 e2
    cases u with
    | nil => right; rw [← e1]
    | cons b v =>
      injection e2 with e3 e4
      exact absurd ⟨v, by rw [hb, ← e1, ← e3]⟩ n
theorem of_no (s : ByteArray) (h : Lib.hasPrefix [92, 117] s.data.toList = false) : ¬ (bI s = [] ∨ bI s = [92]) := by
  intro hq
  have : Lib.hasPrefix [92, 117] s.data.toList = true := by
    rcases hq with hq | hq
    · exact (map_pre _ _).2 ⟨[92, 117], by show _ = bI s ++ _; rw [hq]; rfl⟩
    · exact (map_pre _ _).2 ⟨[117], by show _ = bI s ++ _; rw [hq]; rfl⟩
  rw [this] at h; cases h
def unitV (s : ByteArray) : Value := .tuple #[.int .i32 (fourP (bI s)).1, .int .i64 (fourP (bI s)).2]
set_option maxHeartbeats 2000000 in
theorem unit_no (s : ByteArray) (w : World) (h0 : Lib.hasPrefix s.data.toList [92, 117] = false) : Calls Try.prog 33 #[.string s] w fun e w' => e = .returned (unitV s) ∧ Below w.heap.size w w' := by
  have H := Lib.hid (fun W => cp_any s { data := #[92, 117] } W)
  have H2 := Lib.hid (fun W => hp_any { data := #[92, 117] } s W)
  rw [show ({ data := #[92, 117] } : ByteArray).data.toList = [92, 117] from rfl] at H H2
  rw [h0] at H
  unfold unitV
  cases h1 : Lib.hasPrefix [92, 117] s.data.toList with
  | true =>
    rw [h1] at H2
    have hv := four_short _ (of_yes s h0 h1)
    rw [hv]
    clear hv h0 h1
    go_enter Try.func33, Try.ntmps33
    go_wp2_with fail
    refine (H.out _).mono ?_
    rintro e w' ⟨rfl, rfl⟩
    go_wp2_with fail
    refine (H2.out _).mono ?_
    rintro e w' ⟨rfl, rfl⟩
    go_wp2_with fail
    refine bodyPost_ret (v := .tuple #[.int .i32 0, .int .i64 3]) (by simp [results, Try.results33, go_sem]) rfl ⟨rfl, by go_grown⟩
  | false =>
    rw [h1] at H2
    have hv := four_not _ (pre_no s h0) (of_no s h1)
    rw [hv]
    clear hv h0 h1
    go_enter Try.func33, Try.ntmps33
    go_wp2_with fail
    refine (H.out _).mono ?_
    rintro e w' ⟨rfl, rfl⟩
    go_wp2_with fail
    refine (H2.out _).mono ?_
    rintro e w' ⟨rfl, rfl⟩
    go_wp2_with fail
    refine bodyPost_ret (v := .tuple #[.int .i32 0, .int .i64 4]) (by simp [results, Try.results33, go_sem]) rfl ⟨rfl, by go_grown⟩
end Go.Proofs.Ytcpofeebfckmhaa
