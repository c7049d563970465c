/- Contracts of the program's Total and Has. -/
import Derived.Test.YthlekifagidijaaDoorPi
namespace Go.Proofs.YthlekifagidijaaDoor
open Go.RowKit
set_option linter.unusedVariables false
set_option linter.unusedSimpArgs false
/-- What stays of an interval's block. -/
theorem kept2 {w w1 : World} {A B : Value} {T : TypeId} (hb : Below (w.alloc (.cells #[A, B] T)).heap.size (w.alloc (.cells #[A, B] T)) w1) :
    w1.cell? ⟨w.heap.size, 0, none⟩ = some A ∧ w1.cell? ⟨w.heap.size, 1, none⟩ = some B ∧ w.heap.size < w1.heap.size ∧ Below w.heap.size w w1 := by
  have hs := hb.size
  simp only [World.size_alloc] at hs
  refine ⟨?_, ?_, by omega, Below.trans (by go_grown) (hb.mono (by simp))⟩
  · exact scell_later hb (by simp [go_sem])
  · exact scell_later hb (by simp [go_sem])
set_option maxHeartbeats 1000000 in
theorem total_any (v : Value) (l : List (Int × Int)) (w : World) (hv : SpansAt w v l) (hw : WideS l) (hl : l.length ≤ 100000) : Calls Tryd.prog 24 #[v] w fun e w' => e = .returned (.int .u64 (tot l % 18446744073709551616)) ∧ Below w.heap.size w w' := by
  obtain ⟨al, cap, rfl, _, _, hc⟩ := hv
  have HC := Lib.hid hc
  have HW := Lib.hid hw
  clear hc hw
  go_enter Tryd.func24, Tryd.ntmps24
  go_wp2_with fail
  go_loopw [3, 8] (fun n s wr => ∃ (i : Nat) (N : Int), i ≤ l.length ∧ s = .int .i64 i ∧ n = .int .u64 N ∧ Hid (N = tot (l.take i) % 18446744073709551616) ∧ 0 ≤ N ∧ N ≤ 18446744073709551615 ∧ Below w.heap.size w wr) (fun _ s _ => l.length - (intOf s).toNat)
  case atStart => exact ⟨0, 0, Nat.zero_le _, rfl, rfl, Lib.hid rfl, by omega, by omega, Below.refl _ _⟩
  case round =>
    obtain ⟨i, N, hi, rfl, rfl, HN, n0, n1, hbw⟩ := hrel
    by_cases hlt : i < l.length
    · obtain ⟨t, ht⟩ : ∃ t, l[i]? = some t := ⟨_, List.getElem?_eq_getElem hlt⟩
      obtain ⟨b0, b1, b2, b3⟩ := HW.out t (List.mem_of_getElem? ht)
      obtain ⟨g, off, rfl, hg, l0, l1⟩ := HC.out i t ht
      replace l0 := scell_later hbw l0
      replace l1 := scell_later hbw l1
      have htk : tot (l.take (i + 1)) = tot (l.take i) + (if t.1 ≤ t.2 then t.2 - t.1 + 1 else 0) := by
        rw [List.take_add_one, ht]; exact tot_snoc _ _
      have HTK := Lib.hid htk
      have hi2 : (i : Int) < (l.length : Int) := by omega
      clear ht htk
      obtain ⟨p, q⟩ := t
      dsimp only at l0 l1 b0 b1 b2 b3 HTK
      have he := fun w => empty_any p q w
      by_cases hpq : p ≤ q
      · rw [if_pos hpq] at HTK
        rw [decide_eq_false (show ¬ q < p by omega)] at he
        have HE := Lib.hid he
        clear he
        go_wp2_with fail
        refine (HE.out _).mono ?_
        rintro e w1 ⟨rfl, hb⟩
        obtain ⟨c0, c1, hs1, hb1⟩ := kept2 hb
        have hbw1 := hbw.trans (hb1.mono hbw.size)
        clear hb hb1 hbw l0 l1 HE
        go_wp2_with fail
        go_roundw
        case rel =>
          refine ⟨i + 1, _, by omega, by go_num, rfl, Lib.hid ?_, ?_, ?_, hbw1⟩
          · rw [HTK.out, HN.out]
            simp only [IntKind.wrap_u64]
            omega
          · simp only [IntKind.wrap_u64]; omega
          · simp only [IntKind.wrap_u64]; omega
        case measure => simp [intOf]; omega
      · rw [if_neg hpq] at HTK
        rw [decide_eq_true (show q < p by omega)] at he
        have HE := Lib.hid he
        clear he
        go_wp2_with fail
        refine (HE.out _).mono ?_
        rintro e w1 ⟨rfl, hb⟩
        obtain ⟨c0, c1, hs1, hb1⟩ := kept2 hb
        have hbw1 := hbw.trans (hb1.mono hbw.size)
        clear hb hb1 hbw l0 l1 HE
        go_wp2_with fail
        go_roundw
        case rel => exact ⟨i + 1, N, by omega, by go_num, rfl, Lib.hid (by rw [HTK.out, Int.add_zero]; exact HN.out), n0, n1, hbw1⟩
        case measure => simp [intOf]; omega
    · obtain rfl : i = l.length := by omega
      rw [List.take_length] at HN
      go_wp2_with fail
      go_ret
      exact ⟨by rw [← HN.out]; rfl, hbw⟩
theorem kept53b {w w1 : World} {A B C D E F G H : Value} {T U : TypeId} (hb : Below ((w.alloc (.cells #[A, B, C, D, E] T)).alloc (.cells #[F, G, H] U)).heap.size ((w.alloc (.cells #[A, B, C, D, E] T)).alloc (.cells #[F, G, H] U)) w1) : w.heap.size + 2 ≤ w1.heap.size := by
  have hs := hb.size
  simp only [World.size_alloc] at hs
  omega
set_option maxHeartbeats 1000000 in
theorem has_any (z x0 y0 x1 y1 u a b : Int) (w : World) : Calls Tryd.prog 12 #[.agg #[.int .i64 z, .int .i64 x0, .int .i64 y0, .int .i64 x1, .int .i64 y1], .agg #[.int .i64 u, .int .i64 a, .int .i64 b]] w fun e w' => e = .returned (.bool (hasB z x0 y0 x1 y1 u a b)) ∧ Below w.heap.size w w' := by
  have h0 := fun w => check_any z x0 y0 x1 y1 w
  by_cases h : ckE z x0 y0 x1 y1 = 0
  · rw [h] at h0
    by_cases g1 : u = z
    · subst g1
      have hB : hasB u x0 y0 x1 y1 u a b = decide (HoldR x0 y0 x1 y1 a b a b) := decide_eq_decide.2 ⟨fun g => ⟨g.2.2.1, g.2.2.2.1, g.2.2.2.2.1, g.2.2.2.2.2⟩, fun g => ⟨h, rfl, g.1, g.2.1, g.2.2.1, g.2.2.2⟩⟩
      rw [hB]
      have h2 := fun w => holds_any u x0 y0 x1 y1 u a b a b w
      generalize decide (HoldR x0 y0 x1 y1 a b a b) = r at *
      have H0 := Lib.hid h0
      have H2 := Lib.hid h2
      clear h0 h h2 hB
      go_enter Tryd.func12, Tryd.ntmps12
      go_wp2_with fail
      refine (H0.out _).mono ?_
      rintro e w1 ⟨rfl, hb⟩
      obtain ⟨c0, c1, c2, c3, c4, d0, d1, d2, hb1⟩ := kept53 hb
      have hs := kept53b hb
      clear hb
      go_wp2_with fail
      refine (H2.out _).mono ?_
      rintro e w2 ⟨rfl, hb⟩
      have hb2 := hb1.trans (hb.mono hb1.size)
      clear hb hb1 c0 c1 c2 c3 c4 d0 d1 d2
      go_wp2_with fail
      go_ret
      exact ⟨rfl, hb2⟩
    · rw [show hasB z x0 y0 x1 y1 u a b = false from decide_eq_false (fun g => g1 g.2.1)]
      have g6 : (u == z) = false := by rw [beq_eq_false_iff_ne]; exact g1
      have H0 := Lib.hid h0
      clear h0 h
      go_enter Tryd.func12, Tryd.ntmps12
      go_wp2_with fail
      refine (H0.out _).mono ?_
      rintro e w1 ⟨rfl, hb⟩
      obtain ⟨c0, c1, c2, c3, c4, d0, d1, d2, hb1⟩ := kept53 hb
      clear hb
      go_wp2_with fail
      go_ret
      exact ⟨rfl, hb1⟩
  · rw [show hasB z x0 y0 x1 y1 u a b = false from decide_eq_false (fun g => h g.1)]
    have hne : (ckE z x0 y0 x1 y1 == 0) = false := by simpa using h
    have H0 := Lib.hid h0
    clear h0 h
    generalize ckE z x0 y0 x1 y1 = E at *
    go_enter Tryd.func12, Tryd.ntmps12
    go_wp2_with fail
    refine (H0.out _).mono ?_
    rintro e w1 ⟨rfl, hb⟩
    obtain ⟨c0, c1, c2, c3, c4, d0, d1, d2, hb1⟩ := kept53 hb
    clear hb
    go_wp2_with fail
    go_ret
    exact ⟨rfl, hb1⟩
end Go.Proofs.YthlekifagidijaaDoor
