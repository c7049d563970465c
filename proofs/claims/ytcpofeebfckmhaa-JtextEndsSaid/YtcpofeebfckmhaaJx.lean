/- The program's plain: how far bytes stand for themselves. -/
import Derived.Test.YtcpofeebfckmhaaJw
namespace Go.Proofs.Ytcpofeebfckmhaa
open Go.RowKit
set_option maxRecDepth 20000
set_option linter.unusedVariables false
set_option linter.unusedSimpArgs false
def PlainEnd (s : ByteArray) (w : World) (e : Ending) (w' : World) : Prop := (∃ k : Nat, e = .returned (.int .i64 k) ∧ k ≤ s.size ∧ Adv (bI s) k ∧ ¬ Pl ((bI s).drop k)) ∧ Below w.heap.size w w'
theorem pl_nil (s : ByteArray) (k : Nat) (hk : ¬ k < s.size) : ¬ Pl ((bI s).drop k) := by
  rw [List.drop_of_length_le (by rw [bI_len]; omega)]
  rintro ⟨h, _⟩
  exact h rfl
set_option maxHeartbeats 4000000 in
theorem plain_any (s : ByteArray) (w : World) (hs : s.size ≤ 100000) : Calls Try.prog 27 #[.string s] w (PlainEnd s w) := by
  unfold PlainEnd
  go_enter Try.func27, Try.ntmps27
  go_wp2_with fail
  go_loopw [] (fun wr => ∃ (k : Nat), k ≤ s.size ∧ Hid (Adv (bI s) k) ∧ Hid (wr.heap[w.heap.size]? = some (.stringIter s k)) ∧ Hid (Below w.heap.size w wr)) (fun wr => s.size - wr.iterPos w.heap.size)
  case atStart => exact ⟨0, Nat.zero_le _, Lib.hid (adv_zero _), Lib.hid (World.iter_heap _ _ _), Lib.hid ((Below.refl _ _).alloc (Nat.le_refl _) _)⟩
  case round =>
    obtain ⟨k, hks, HA, HIT, HB⟩ := hrel
    by_cases hp : k < s.size
    · have hnx := fun ty => Lib.run_next_any_at (P := Try.prog) wr w.heap.size s k ty HIT.out hp
      have hbd := dec_bd s k hp
      have HL := Lib.hid (fun W => islost_any (s.extract k s.size) (Utf8.decode s k).1 W)
      rw [lost_round s k hp] at HL
      have HW := Lib.hid (Lib.iterAt_heap wr w.heap.size s k (k + (Utf8.decode s k).2) HIT.out)
      have HB2 := Lib.hid (Lib.below_iterAt HB.out (k := w.heap.size) (Nat.le_refl _) s (k + (Utf8.decode s k).2))
      have hk1 : (k : Int) ≤ (s.size : Int) := by omega
      have hpl := pl_iff s k hp
      have HK := Lib.hid hks
      clear hks
      by_cases h1 : ((Utf8.decode s k).1 : Int) < 32
      · have HN : Hid (¬ Pl ((bI s).drop k)) := Lib.hid (fun h => hpl.1 h (Or.inl h1))
        generalize Utf8.decode s k = d at *
        clear hbd hpl HL
        go_wp2_with fail
        go_ret
        exact ⟨⟨k, rfl, HK.out, HA.out, HN.out⟩, HB2.out⟩
      by_cases h2 : ((Utf8.decode s k).1 : Int) = 34
      · have HN : Hid (¬ Pl ((bI s).drop k)) := Lib.hid (fun h => hpl.1 h (Or.inr (Or.inl h2)))
        generalize Utf8.decode s k = d at *
        clear hbd hpl HL
        go_wp2_with fail
        go_ret
        exact ⟨⟨k, rfl, HK.out, HA.out, HN.out⟩, HB2.out⟩
      by_cases h3 : ((Utf8.decode s k).1 : Int) = 92
      · have HN : Hid (¬ Pl ((bI s).drop k)) := Lib.hid (fun h => hpl.1 h (Or.inr (Or.inr (Or.inl h3))))
        generalize Utf8.decode s k = d at *
        clear hbd hpl HL
        go_wp2_with fail
        go_ret
        exact ⟨⟨k, rfl, HK.out, HA.out, HN.out⟩, HB2.out⟩
      by_cases hl : runeP ((bI s).drop k) = []
      · have HN : Hid (¬ Pl ((bI s).drop k)) := Lib.hid (fun h => hpl.1 h (Or.inr (Or.inr (Or.inr hl))))
        rw [decide_eq_true hl] at HL
        generalize Utf8.decode s k = d at *
        clear hbd hpl hl
        go_wp2_with fail
        refine (HL.out _).mono ?_
        rintro e w2 ⟨rfl, hb2⟩
        have HB3 := Lib.hid (HB2.out.trans (hb2.mono HB2.out.size))
        clear hb2
        go_wp2_with fail
        go_ret
        exact ⟨⟨k, rfl, HK.out, HA.out, HN.out⟩, HB3.out⟩
      · have hP : Pl ((bI s).drop k) := hpl.2 (by rintro (h | h | h | h); exact h1 h; exact h2 h; exact h3 h; exact hl h)
        have HA2 := Lib.hid (adv_step HA.out hP)
        rw [← (width_rune s k hp hl).1] at HA2
        rw [decide_eq_false hl] at HL
        generalize Utf8.decode s k = d at *
        have HD := Lib.hid hbd
        have b2 : ((d.1 : Int) == 34) = false := by simpa using h2
        have b3 : ((d.1 : Int) == 92) = false := by simpa using h3
        clear hbd hpl hl hP
        go_wp2_with fail
        refine (HL.out _).mono ?_
        rintro e w2 ⟨rfl, hb2⟩
        have HB3 := Lib.hid (HB2.out.trans (hb2.mono HB2.out.size))
        have HW2 : Hid (w2.heap[w.heap.size]? = some (.stringIter s (k + d.2))) := Lib.hid (by rw [hb2.block _ (Array.getElem?_eq_some_iff.1 HW.out).1]; exact HW.out)
        clear hb2
        go_wp2_with fail
        refine ⟨⟨k + d.2, HD.out.2.2, HA2, HW2, HB3⟩, ?_⟩
        have := HD.out
        simp only [World.iterPos, HW2.out, HIT.out]
        omega
    · have hnx := fun ty => Lib.run_next_end_at (P := Try.prog) wr w.heap.size s k ty HIT.out hp
      have hk : k = s.size := by omega
      have HN : Hid (¬ Pl ((bI s).drop s.size)) := Lib.hid (pl_nil s s.size (by omega))
      subst hk
      clear hp hks
      go_wp2_with fail
      go_ret
      exact ⟨⟨s.size, rfl, Nat.le_refl _, HA.out, HN.out⟩, HB.out⟩
end Go.Proofs.Ytcpofeebfckmhaa
