/- The program's Quote. -/
import Derived.Test.YtcpofeebfckmhaaJw
import Derived.Test.YtcpofeebfckmhaaJy
import Derived.LoopTactic
namespace Go.Proofs.Ytcpofeebfckmhaa
open Go.RowKit
set_option maxRecDepth 20000
set_option linter.unusedVariables false
set_option linter.unusedSimpArgs false
structure QInv (s : ByteArray) (k : Nat) (out : List Int) : Prop where
  le : k ≤ s.size
  cnt : countP (bI s) < 0 ↔ countP ((bI s).drop k) < 0
  out_ : out = 34 :: quoteB ((bI s).take k)
theorem QInv.zero (s : ByteArray) : QInv s 0 ([] ++ [34]) := ⟨Nat.zero_le _, by rw [List.drop_zero], by rw [List.take_zero]; rfl⟩
theorem QInv.len {s : ByteArray} {k : Nat} {out : List Int} (h : QInv s k out) : out.length ≤ 6 * s.size + 1 := by
  have h1 := quoteB_len ((bI s).take k)
  have h2 : ((bI s).take k).length ≤ s.size := by rw [List.length_take, bI_len]; omega
  rw [h.out_, List.length_cons]
  omega
theorem QInv.bad {s : ByteArray} {k : Nat} {out : List Int} (h : QInv s k out) (hk : k < s.size) (hl : runeP ((bI s).drop k) = []) : quoteP (bI s) = ([], 4) := by
  have h1 : countP (bI s) < 0 := h.cnt.2 (by rw [count_step (drop_ne s k hk), if_pos hl]; decide)
  unfold quoteP
  rw [if_pos h1]
theorem QInv.step {s : ByteArray} {k : Nat} {out : List Int} (h : QInv s k out) (hk : k < s.size) (hl : runeP ((bI s).drop k) ≠ []) : QInv s (k + (Utf8.decode s k).2) (out ++ quoteB (encC (Utf8.decode s k).1)) := by
  obtain ⟨h1, h2⟩ := width_rune s k hk hl
  refine ⟨(dec_bd s k hk).2.2, ?_, ?_⟩
  · rw [h.cnt, count_step (drop_ne s k hk), if_neg hl, List.drop_drop, ← h1]
    constructor
    · intro hq
      split at hq
      · assumption
      · omega
    · intro hq
      rw [if_pos hq]; decide
  · rw [h.out_, List.take_add, quoteB_append, h1, rune_take _ hl, h2]
    rfl
theorem QInv.fin {s : ByteArray} {k : Nat} {out : List Int} (h : QInv s k out) (hk : ¬ k < s.size) : quoteP (bI s) = (out ++ [34], 0) := by
  have e : k = s.size := by have := h.le; omega
  have h1 : ¬ countP (bI s) < 0 := by
    rw [h.cnt, List.drop_of_length_le (by rw [bI_len]; omega), count_nil]
    decide
  unfold quoteP
  rw [if_neg h1, h.out_, List.take_of_length_le (by rw [bI_len]; omega)]
theorem QInv.byte {s : ByteArray} {k : Nat} {out : List Int} (h : QInv s k out) (hk : ¬ k < s.size) : ∀ b ∈ out ++ [34], 0 ≤ b ∧ b < 256 := by
  have hq := h.fin hk
  have hc : ¬ countP (bI s) < 0 := by
    intro hc
    unfold quoteP at hq
    rw [if_pos hc] at hq
    injection hq with h1 h2
    cases h2
  obtain ⟨n, hv, _⟩ := count_of (l := bI s) (by omega)
  have e : k = s.size := by have := h.le; omega
  have ht : (bI s).take k = bI s := List.take_of_length_le (by rw [bI_len]; omega)
  intro b hb
  rw [h.out_, ht] at hb
  rcases List.mem_append.1 hb with hb | hb
  · rcases List.mem_cons.1 hb with rfl | hb
    · decide
    · have := quoteB_byte hv b hb; omega
  · rw [List.mem_singleton] at hb; subst hb; decide
set_option maxHeartbeats 4000000 in
theorem jquote_any (s : ByteArray) (w : World) (hs : s.size ≤ 10000) : Calls Try.prog 7 #[.string s] w fun e w' => e = .returned (.tuple #[.string (str (quoteP (bI s)).1), .int .i64 (quoteP (bI s)).2]) ∧ Below w.heap.size w w' := by
  have e0 : str [] = { data := #[] } := rfl
  have HB0 := Lib.hid (wb_any w.heap.size [] 34 _ (Bd.fresh w) (by decide))
  go_enter Try.func7, Try.ntmps7
  go_wp2_with fail
  refine HB0.out.mono ?_
  rintro e w1 ⟨rfl, g1, g2, g3⟩
  have H1 := Lib.hid (g1.alloc (.stringIter s 0))
  have HS1 : Hid (w.heap.size < w1.heap.size) := Lib.hid g1.lt
  have HB1 : Hid (Below w.heap.size w w1) := Lib.hid (((Below.refl _ w).alloc (Nat.le_refl _) _).trans g2)
  clear g1 g2 g3 HB0
  go_wp2_with fail
  go_loopw [] (fun wr => ∃ (k : Nat) (out : List Int), Hid (QInv s k out) ∧ Hid (Bd w.heap.size out wr) ∧ Hid (wr.heap[w1.heap.size]? = some (.stringIter s k)) ∧ Hid (Below w.heap.size w wr)) (fun wr => s.size - wr.iterPos w1.heap.size)
  case atStart => exact ⟨0, _, Lib.hid (QInv.zero s), H1, Lib.hid (World.iter_heap _ _ _), Lib.hid (HB1.out.alloc (Nat.le_of_lt HS1.out) _)⟩
  case round =>
    obtain ⟨k, out, HQ, HD, HIT, HB⟩ := hrel
    have hol := HQ.out.len
    have hs2 : out.length ≤ 900000 := by omega
    have HO := Lib.hid hol
    clear hol
    have HKS : Hid (k ≤ s.size) := Lib.hid HQ.out.le
    by_cases hp : k < s.size
    · have hnx := fun ty => Lib.run_next_any_at (P := Try.prog) wr w1.heap.size s k ty HIT.out hp
      have hbd := dec_bd s k hp
      have HL := Lib.hid (fun W => islost_any (s.extract k s.size) (Utf8.decode s k).1 W)
      rw [lost_round s k hp] at HL
      have HW := Lib.hid (Lib.iterAt_heap wr w1.heap.size s k (k + (Utf8.decode s k).2) HIT.out)
      have HB2 := Lib.hid (Lib.below_iterAt HB.out (k := w1.heap.size) (Nat.le_of_lt HS1.out) s (k + (Utf8.decode s k).2))
      have HD2 := Lib.hid (HD.out.iterAt HIT.out (k + (Utf8.decode s k).2))
      have hk1 : (k : Int) ≤ (s.size : Int) := by omega
      by_cases hl : runeP ((bI s).drop k) = []
      · have HF := Lib.hid (HQ.out.bad hp hl)
        rw [decide_eq_true hl] at HL
        generalize Utf8.decode s k = d at *
        clear hbd hl
        go_wp2_with fail
        refine (HL.out _).mono ?_
        rintro e w2 ⟨rfl, hb2⟩
        have HB3 := Lib.hid (HB2.out.trans (hb2.mono HB2.out.size))
        clear hb2
        go_wp2_with fail
        refine bodyPost_ret (v := .tuple #[.string { data := #[] }, .int .i64 4]) (by simp [results, Try.results7, go_sem]) rfl ⟨by rw [HF.out, e0], HB3.out⟩
      · have HQ2 := Lib.hid (HQ.out.step hp hl)
        have HN : Hid (encC ((Utf8.decode s k).1 : Int) ≠ []) := Lib.hid (by rw [(width_rune s k hp hl).2]; exact hl)
        rw [decide_eq_false hl] at HL
        generalize Utf8.decode s k = d at *
        have HD3 := Lib.hid hbd
        have HP := Lib.hid (fun W (hb : Bd w.heap.size out W) => put_any w.heap.size out d.1 W hb HN.out hs2)
        unfold PutEnd at HP
        clear hbd hl hs2
        go_wp2_with fail
        refine (HL.out _).mono ?_
        rintro e w2 ⟨rfl, hb2⟩
        have HB3 := Lib.hid (HB2.out.trans (hb2.mono HB2.out.size))
        have HW2 : Hid (w2.heap[w1.heap.size]? = some (.stringIter s (k + d.2))) := Lib.hid (by rw [hb2.block _ (Array.getElem?_eq_some_iff.1 HW.out).1]; exact HW.out)
        have HD4 := Lib.hid (HD2.out.kept hb2)
        clear hb2
        go_wp2_with fail
        refine (HP.out _ HD4.out).mono ?_
        rintro e w3 ⟨rfl, g1, g2, g3⟩
        have HD5 := Lib.hid g1
        have HB5 := Lib.hid (HB3.out.trans g2)
        have HW5 := Lib.hid (Lib.OthersKept.iter g3 HW2.out (by have := HS1.out; omega))
        clear g1 g2 g3
        go_wp2_with fail
        refine ⟨⟨k + d.2, _, HQ2, HD5, HW5, HB5⟩, ?_⟩
        have := HD3.out
        simp only [World.iterPos, HW5.out, HIT.out]
        omega
    · have hnx := fun ty => Lib.run_next_end_at (P := Try.prog) wr w1.heap.size s k ty HIT.out hp
      have HF := Lib.hid (HQ.out.fin hp)
      have HY := Lib.hid (HQ.out.byte hp)
      have HP := Lib.hid (fun W (hb : Bd w.heap.size out W) => wb_any w.heap.size out 34 W hb (by omega))
      have HT := Lib.hid (fun W (hb : Bd w.heap.size (out ++ [34]) W) => st_any w.heap.size (out ++ [34]) W hb HY.out)
      clear hs2
      go_wp2_with fail
      refine (HP.out _ HD.out).mono ?_
      rintro e w2 ⟨rfl, g1, g2, g3⟩
      have HD2 := Lib.hid g1
      have HB2 := Lib.hid (HB.out.trans g2)
      clear g1 g2 g3
      go_wp2_with fail
      refine (HT.out _ HD2.out).mono ?_
      rintro e w3 ⟨rfl, g2⟩
      have HB3 := Lib.hid (HB2.out.trans g2)
      clear g2
      go_wp2_with fail
      refine bodyPost_ret (v := .tuple #[.string (str (out ++ [34])), .int .i64 0]) (by simp [results, Try.results7, go_sem]) rfl ⟨by rw [HF.out], HB3.out⟩
end Go.Proofs.Ytcpofeebfckmhaa
