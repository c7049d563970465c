/- The program's plain, Count, Valid: ranges over a text. -/
import Derived.Test.YtcpofeebfckmhaaJs
import Derived.LoopTactic
namespace Go.Proofs.Ytcpofeebfckmhaa
open Go.RowKit
set_option maxRecDepth 20000
set_option linter.unusedVariables false
set_option linter.unusedSimpArgs false
/-- What isLost tells in a round. -/
theorem lost_round (s : ByteArray) (i : Nat) (hi : i < s.size) : lostB (s.extract i s.size) (Utf8.decode s i).1 = decide (runeP ((bI s).drop i) = []) := by
  have h := lost_iff s i hi
  unfold lostB
  by_cases hl : runeP ((bI s).drop i) = []
  · obtain ⟨h1, h2⟩ := h.2 hl
    rw [h1, h2, decide_eq_true hl]; rfl
  · rw [decide_eq_false hl]
    cases hd : decide (((Utf8.decode s i).1 : Int) = 65533) with
    | false => rfl
    | true =>
      cases hp : Lib.hasPrefix (s.extract i s.size).data.toList [239, 191, 189] with
      | true => rfl
      | false => exact absurd (h.1 ⟨of_decide_eq_true hd, hp⟩) hl
theorem count_fin (s : ByteArray) (n : Nat) (T : Int) (k : Nat) (hk : ¬ k < s.size) (h : T = addC n (countP ((bI s).drop k))) : T = n := by
  rw [List.drop_of_length_le (by rw [bI_len]; omega), count_nil] at h
  rw [h]; unfold addC; rw [if_neg (by omega)]; omega
theorem drop_ne (s : ByteArray) (k : Nat) (hk : k < s.size) : (bI s).drop k ≠ [] := by
  intro e
  have := congrArg List.length e
  rw [List.length_drop, bI_len] at this
  simp at this
  omega
theorem count_bad (s : ByteArray) (n : Nat) (T : Int) (k : Nat) (hk : k < s.size) (hl : runeP ((bI s).drop k) = []) (h : T = addC n (countP ((bI s).drop k))) : T = -1 := by
  rw [count_step (drop_ne s k hk), if_pos hl] at h
  rw [h]; rfl
theorem count_go (s : ByteArray) (n : Nat) (T : Int) (k : Nat) (hk : k < s.size) (hl : runeP ((bI s).drop k) ≠ []) (h : T = addC n (countP ((bI s).drop k))) : T = addC (n + 1) (countP ((bI s).drop (k + (Utf8.decode s k).2))) := by
  rw [count_step (drop_ne s k hk), if_neg hl, List.drop_drop, ← (width_rune s k hk hl).1] at h
  rw [h]
  unfold addC
  by_cases hc : countP ((bI s).drop (k + (Utf8.decode s k).2)) < 0
  · rw [if_pos hc, if_pos (by omega), if_pos hc]
  · rw [if_neg hc, if_neg (by omega), if_neg hc]; omega
set_option maxHeartbeats 4000000 in
theorem jcount_any (s : ByteArray) (w : World) (hs : s.size ≤ 100000) : Calls Try.prog 9 #[.string s] w fun e w' => e = .returned (.int .i64 (countP (bI s))) ∧ Below w.heap.size w w' := by
  obtain ⟨T, hT⟩ : ∃ T, countP (bI s) = T := ⟨_, rfl⟩
  rw [hT]
  have H0 : Hid (T = addC 0 (countP ((bI s).drop 0))) := Lib.hid (by
    have h2 : -1 ≤ countP (bI s) := countF_ge (bI s).length (bI s)
    unfold addC
    rw [List.drop_zero, ← hT]
    split <;> omega)
  clear hT
  go_enter Try.func9, Try.ntmps9
  go_wp2_with fail
  go_loopw [3] (fun i wr => ∃ (k n : Nat), i = .int .i64 n ∧ n ≤ k ∧ Hid (T = addC n (countP ((bI s).drop k))) ∧ Hid (wr.heap[w.heap.size]? = some (.stringIter s k)) ∧ Hid (Below w.heap.size w wr)) (fun _ wr => s.size - wr.iterPos w.heap.size)
  case atStart => exact ⟨0, 0, rfl, Nat.le_refl _, H0, Lib.hid (World.iter_heap _ _ _), Lib.hid ((Below.refl _ _).alloc (Nat.le_refl _) _)⟩
  case round =>
    obtain ⟨k, n, rfl, hnk, HT, HIT, HB⟩ := hrel
    by_cases hp : k < s.size
    · have hnx := fun ty => Lib.run_next_any_at (P := Try.prog) wr w.heap.size s k ty HIT.out hp
      have hbd := dec_bd s k hp
      have HL := Lib.hid (fun W => islost_any (s.extract k s.size) (Utf8.decode s k).1 W)
      rw [lost_round s k hp] at HL
      have HW := Lib.hid (Lib.iterAt_heap wr w.heap.size s k (k + (Utf8.decode s k).2) HIT.out)
      have HB2 := Lib.hid (Lib.below_iterAt HB.out (k := w.heap.size) (Nat.le_refl _) s (k + (Utf8.decode s k).2))
      have hk1 : (k : Int) ≤ (s.size : Int) := by omega
      by_cases hl : runeP ((bI s).drop k) = []
      · have HF := Lib.hid (count_bad s n T k hp hl HT.out)
        rw [decide_eq_true hl] at HL
        generalize Utf8.decode s k = d at *
        clear hbd hl
        go_wp2_with fail
        refine (HL.out _).mono ?_
        rintro e w2 ⟨rfl, hb2⟩
        have HB3 := Lib.hid (HB2.out.trans (hb2.mono HB2.out.size))
        clear hb2
        go_wp2_with fail
        refine bodyPost_ret (v := .int .i64 (-1)) (by simp [results, Try.results9, go_sem]) rfl ⟨by rw [HF.out], HB3.out⟩
      · have HF := Lib.hid (count_go s n T k hp hl HT.out)
        rw [decide_eq_false hl] at HL
        generalize Utf8.decode s k = d at *
        have HD := Lib.hid hbd
        clear hbd hl
        go_wp2_with fail
        refine (HL.out _).mono ?_
        rintro e w2 ⟨rfl, hb2⟩
        have HB3 := Lib.hid (HB2.out.trans (hb2.mono HB2.out.size))
        have HW2 : Hid (w2.heap[w.heap.size]? = some (.stringIter s (k + d.2))) := Lib.hid (by rw [hb2.block _ (Array.getElem?_eq_some_iff.1 HW.out).1]; exact HW.out)
        clear hb2
        go_wp2_with fail
        go_roundw
        case rel => exact ⟨k + d.2, n + 1, by go_num, by have := HD.out; omega, HF, HW2, HB3⟩
        case measure =>
          have := HD.out
          simp only [World.iterPos, HW2.out, HIT.out]
          omega
    · have hnx := fun ty => Lib.run_next_end_at (P := Try.prog) wr w.heap.size s k ty HIT.out hp
      have HF := Lib.hid (count_fin s n T k hp HT.out)
      go_wp2_with fail
      go_ret
      exact ⟨by rw [HF.out]; rfl, HB.out⟩
theorem jvalid_any (s : ByteArray) (w : World) (hs : s.size ≤ 100000) : Calls Try.prog 11 #[.string s] w fun e w' => e = .returned (.bool (decide (0 ≤ countP (bI s)))) ∧ Below w.heap.size w w' := by
  have HC := Lib.hid (jcount_any s w hs)
  generalize countP (bI s) = c at *
  go_enter Try.func11, Try.ntmps11
  go_wp2_with fail
  refine HC.out.mono ?_
  rintro e w2 ⟨rfl, hb2⟩
  go_wp2_with fail
  go_ret
  exact ⟨rfl, hb2⟩
end Go.Proofs.Ytcpofeebfckmhaa
