/- Contract of the program's Spans. -/
import Derived.Test.YthlekifagidijaaDoorPn
import Derived.Test.YthlekifagidijaaDoorRk
namespace Go.Proofs.YthlekifagidijaaDoor
open Go.RowKit
set_option linter.unusedVariables false
set_option linter.unusedSimpArgs false
theorem kept51 {w w1 : World} {A B C D E F : Value} {T U : TypeId} (hb : Below ((w.alloc (.cells #[A, B, C, D, E] T)).alloc (.cells #[F] U)).heap.size ((w.alloc (.cells #[A, B, C, D, E] T)).alloc (.cells #[F] U)) w1) :
    w1.cell? ⟨w.heap.size, 0, none⟩ = some A ∧ w1.cell? ⟨w.heap.size, 1, none⟩ = some B ∧ w1.cell? ⟨w.heap.size, 2, none⟩ = some C ∧ w1.cell? ⟨w.heap.size, 3, none⟩ = some D ∧ w1.cell? ⟨w.heap.size, 4, none⟩ = some E ∧ w1.cell? ⟨w.heap.size + 1, 0, none⟩ = some F ∧ Below w.heap.size w w1 ∧ w.heap.size + 2 ≤ w1.heap.size := by
  have hs := hb.size
  simp only [World.size_alloc] at hs
  refine ⟨?_, ?_, ?_, ?_, ?_, ?_, Below.trans (by go_grown) (hb.mono (by simp; omega)), by omega⟩
  · exact scell_later hb (by simp [go_sem])
  · exact scell_later hb (by simp [go_sem])
  · exact scell_later hb (by simp [go_sem])
  · exact scell_later hb (by simp [go_sem])
  · exact scell_later hb (by simp [go_sem])
  · exact scell_later hb (by simp [go_sem])
/-- The plain list of a rectangle, as the program's way makes it. -/
def wayL (n : Nat) (x0 y0 x1 y1 : Int) : List (Int × Int) := joins [] (wl x0 y0 x1 y1 n 0 0 0)
/-- As SpEnd, the list in a row of the call's own. -/
def SpOwn (L : List (Int × Int)) (E : Int) (w : World) (e : Ending) (w' : World) : Prop := ∃ v, e = .returned (.tuple #[v, .int .i64 E]) ∧ OwnS w' w.heap.size 54 v L ∧ Below w.heap.size w w'
set_option maxHeartbeats 4000000 in
set_option maxRecDepth 20000 in
theorem spans_own (n m : Nat) (x0 y0 x1 y1 : Int) (hn : n ≤ 26) (m0 : 1 ≤ m) (m1 : m ≤ 4096) (h : ckE n x0 y0 x1 y1 = 0) (w : World) (hq : QTab w) :
    Calls Tryd.prog 15 #[.agg #[.int .i64 n, .int .i64 x0, .int .i64 y0, .int .i64 x1, .int .i64 y1], .int .i64 m] w (SpOwn (spL (wayL n x0 y0 x1 y1) m) (spE (wayL n x0 y0 x1 y1) m) w) := by
  have h0 := fun w => check_any n x0 y0 x1 y1 w
  rw [h] at h0
  have hin : In 0 0 0 := ⟨by omega, by simp [p2], by omega, by simp [p2]⟩
  have h1 := fun (bl bm : Nat) (w' : World) (a : w.heap.size ≤ w'.heap.size) (b : St w' w.heap.size bl bm m (.slice none 0 0) []) (c : QTab w') => within_any n n x0 y0 x1 y1 w.heap.size bl bm m hq.1 m1 0 0 0 (.slice none 0 0) [] w' (by omega) (by omega) hin a b wide_nil (by simp) c
  have hf := feed_is m [] (wl x0 y0 x1 y1 n 0 0 0) (by simp)
  unfold WithEnd keepF at h1
  simp only [Int.natCast_zero] at h1
  change (m < (wayL n x0 y0 x1 y1).length ∧ _) ∨ ((wayL n x0 y0 x1 y1).length ≤ m ∧ _ = (wayL n x0 y0 x1 y1, false)) at hf
  generalize wayL n x0 y0 x1 y1 = P at *
  generalize feed m [] (wl x0 y0 x1 y1 n 0 0 0) = R at *
  have H0 := Lib.hid h0
  have H1 := Lib.hid h1
  have HF := Lib.hid hf
  have HQ := Lib.hid hq
  have b1 : decide ((m : Int) < 1) = false := decide_eq_false (by omega)
  have b2 : decide ((4096 : Int) < m) = false := decide_eq_false (by omega)
  clear h0 h1 hf h hin hq
  generalize (n : Int) = z at *
  go_enter Tryd.func15, Tryd.ntmps15
  go_wp2_with fail
  refine (H0.out _).mono ?_
  rintro e w1 ⟨rfl, hb⟩
  obtain ⟨c0, c1, c2, c3, c4, d0, hb1, hsz⟩ := kept51 hb
  clear hb
  have g := (Below.refl w1.heap.size w1).alloc (Nat.le_refl _) (.cells #[.slice none 0 0] 35)
  have hb2 := hb1.trans (g.mono hb1.size)
  have hst : St (w1.alloc (.cells #[.slice none 0 0] 35)) w.heap.size w1.heap.size (w.heap.size + 1) m (.slice none 0 0) [] :=
    ⟨by simp [go_sem], by simp [go_sem], scell_later g d0, ownS_nil _ _ _, by simp, by simp; omega, by omega, by simp [Value.ownBlock], by simp [Value.ownBlock], by omega⟩
  have HW := Lib.hid (H1.out _ _ _ hb2.size hst (HQ.out.below hb2))
  have HB2 := Lib.hid hb2
  have e0 := scell_later g c0
  have e1 := scell_later g c1
  have e2 := scell_later g c2
  have e3 := scell_later g c3
  have e4 := scell_later g c4
  clear c0 c1 c2 c3 c4 d0 hst hb2 g
  go_wp2_with fail
  refine HW.out.mono ?_
  rintro e w2 ⟨v', rfl, hs2, hf2⟩
  have hb3 := HB2.out.trans hf2.below
  have HS2 := Lib.hid hs2
  have hcell := hs2.cell
  clear e0 e1 e2 e3 e4 hf2 hs2 HW HB2 H0 H1
  rcases HF.out with ⟨hm, hr⟩ | ⟨hm, hr⟩
  · rw [hr]
    go_wp2_with fail
    go_ret2
    exact ⟨_, by rw [show spE P m = 21 from if_pos (by omega)]; rfl, by rw [show spL P m = [] from if_pos (by omega)]; exact ownS_nil _ _ _, hb3⟩
  · have hs3 := HS2.out
    rw [hr] at hs3 ⊢
    have hsp := Lib.hid hs3.own
    clear hs3 HS2
    go_wp2_with fail
    go_ret2
    exact ⟨_, by rw [show spE P m = 0 from if_neg (by omega)]; rfl, by rw [show spL P m = P from if_neg (by omega)]; exact hsp.out, hb3⟩
theorem spans_in (n m : Nat) (x0 y0 x1 y1 : Int) (hn : n ≤ 26) (m0 : 1 ≤ m) (m1 : m ≤ 4096) (h : ckE n x0 y0 x1 y1 = 0) (w : World) (hq : QTab w) :
    Calls Tryd.prog 15 #[.agg #[.int .i64 n, .int .i64 x0, .int .i64 y0, .int .i64 x1, .int .i64 y1], .int .i64 m] w (SpEnd (spL (wayL n x0 y0 x1 y1) m) (spE (wayL n x0 y0 x1 y1) m) w) :=
  (spans_own n m x0 y0 x1 y1 hn m0 m1 h w hq).mono (fun _ _ ⟨v, a, b, c⟩ => ⟨v, a, b.spansAt, c⟩)
theorem spans_no (z x0 y0 x1 y1 most E : Int) (h : E = (if most < 1 ∨ 4096 < most then 2 else ckE z x0 y0 x1 y1)) (hE : E ≠ 0) (w : World) :
    Calls Tryd.prog 15 #[.agg #[.int .i64 z, .int .i64 x0, .int .i64 y0, .int .i64 x1, .int .i64 y1], .int .i64 most] w (SpEnd [] E w) := by
  have h0 := fun w => check_any z x0 y0 x1 y1 w
  generalize ckE z x0 y0 x1 y1 = C at *
  have H0 := Lib.hid h0
  clear h0
  by_cases m0 : most < 1
  · obtain rfl : E = 2 := by rw [h, if_pos (.inl m0)]
    clear h hE
    go_enter Tryd.func15, Tryd.ntmps15
    go_wp2_with fail
    go_ret2
    exact ⟨_, rfl, spans_nil _, by go_grown⟩
  · by_cases m1 : 4096 < most
    · obtain rfl : E = 2 := by rw [h, if_pos (.inr m1)]
      clear h hE
      go_enter Tryd.func15, Tryd.ntmps15
      go_wp2_with fail
      go_ret2
      exact ⟨_, rfl, spans_nil _, by go_grown⟩
    · obtain rfl : E = C := by rw [h, if_neg (by omega)]
      have hne : (E != 0) = true := by simpa using hE
      have b1 : decide (most < 1) = false := decide_eq_false m0
      have b2 : decide (4096 < most) = false := decide_eq_false m1
      clear h hE
      go_enter Tryd.func15, Tryd.ntmps15
      go_wp2_with fail
      refine (H0.out _).mono ?_
      rintro e w1 ⟨rfl, hb⟩
      obtain ⟨c0, c1, c2, c3, c4, d0, hb1, hsz⟩ := kept51 hb
      clear hb
      go_wp2_with fail
      go_ret2
      exact ⟨_, rfl, spans_nil _, hb1⟩
/-- What the way makes is the plain list of just the rectangle's identifiers. -/
theorem way_is (n : Nat) (x0 y0 x1 y1 : Int) (hn : n ≤ 26) (h0 : 0 ≤ x0) (h2 : x1 < p2 n) (g0 : 0 ≤ y0) (g2 : y1 < p2 n) : Pl (wayL n x0 y0 x1 y1) ∧ (∀ d, Mem (wayL n x0 y0 x1 y1) d ↔ IdR n x0 y0 x1 y1 d) ∧ WideS (wayL n x0 y0 x1 y1) := by
  have hin : In 0 0 0 := ⟨by omega, by simp [p2], by omega, by simp [p2]⟩
  obtain ⟨a, b⟩ := wl_asc x0 y0 x1 y1 n 0 0 0 hin
  obtain ⟨i1, i2, _⟩ := joins_pl [] (wl x0 y0 x1 y1 n 0 0 0) pl_nil (fun s hs => (a s hs).2.1) (b.imp_of_mem (fun {s t} hs ht hst => by have := (a s hs).2.1; omega)) (fun t ht => by simp at ht)
  refine ⟨i1, fun d => ?_, ?_⟩
  · refine (i2 d).trans ?_
    rw [wl_mem x0 y0 x1 y1 n 0 0 0 d hin]
    constructor
    · rintro (hh | ⟨X, Y, hi, hx, hy, a1, a2, a3, a4, rfl⟩)
      · exact absurd hh (mem_nil d)
      · rw [Nat.zero_add] at hi ⊢
        exact ⟨X, Y, a1, a2, a3, a4, (id_of n hn X Y hi).symm⟩
    · rintro ⟨X, Y, a1, a2, a3, a4, rfl⟩
      have hi : In n X Y := ⟨by omega, by omega, by omega, by omega⟩
      have hp := p2_pos n
      refine .inr ⟨X, Y, by rw [Nat.zero_add]; exact hi, (div_in n 0 X).2 ⟨by omega, by omega⟩, (div_in n 0 Y).2 ⟨by omega, by omega⟩, a1, a2, a3, a4, ?_⟩
      rw [Nat.zero_add]
      exact id_of n hn X Y hi
  · have := joins_wide [] (wl x0 y0 x1 y1 n 0 0 0) (fun d => 0 ≤ d ∧ d ≤ 18446744073709551615) (fun t ht => by simp at ht) (fun s hs => by have := wl_wide x0 y0 x1 y1 n 0 0 0 (by omega) hin s hs; omega)
    intro t ht
    have := this t ht
    omega
end Go.Proofs.YthlekifagidijaaDoor
