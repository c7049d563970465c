/- The contract of the document's Spans: the identifiers of a rectangle's tiles, one by one, put together. -/
import Derived.Test.YthlekifagidijaaDoorRu
import Derived.Test.YthlekifagidijaaDoorRh
import Derived.Test.YthlekifagidijaaDoorV
namespace Go.Proofs.YthlekifagidijaaDoor
open Go.RowKit
set_option linter.unusedVariables false
set_option linter.unusedSimpArgs false
theorem idD_bd (z x y : Int) : 0 ≤ idD z x y ∧ idD z x y < 6004799503160661 := by
  by_cases h : plE z x y = 0
  · obtain ⟨_, _, _, _, _, a, b⟩ := id_in z x y h
    exact ⟨a, b⟩
  · rw [id_no z x y h]; omega
/-- The first n tiles of a row, and the first rows of a rectangle, by their identifiers. -/
def rowS (z y x : Int) : Nat → List (Int × Int)
  | 0 => []
  | n + 1 => rowS z y x n ++ [(idD z (x + n) y, idD z (x + n) y)]
def rectS (z x y : Int) (nx : Nat) : Nat → List (Int × Int)
  | 0 => []
  | j + 1 => rectS z x y nx j ++ rowS z (y + j) x nx
theorem rowS_len (z y x : Int) (n : Nat) : (rowS z y x n).length = n := by
  induction n with
  | zero => rfl
  | succ n ih => rw [rowS, List.length_append, ih]; rfl
theorem rectS_len (z x y : Int) (nx n : Nat) : (rectS z x y nx n).length = n * nx := by
  induction n with
  | zero => simp [rectS]
  | succ n ih => rw [rectS, List.length_append, ih, rowS_len, Nat.succ_mul]
theorem rowS_mem (z y x : Int) (n : Nat) (t : Int × Int) : t ∈ rowS z y x n ↔ ∃ i : Nat, i < n ∧ t = (idD z (x + i) y, idD z (x + i) y) := by
  induction n with
  | zero => simp [rowS]
  | succ n ih =>
    rw [rowS, List.mem_append, ih, List.mem_singleton]
    constructor
    · rintro (⟨i, h, e⟩ | e)
      · exact ⟨i, by omega, e⟩
      · exact ⟨n, by omega, e⟩
    · rintro ⟨i, h, e⟩
      by_cases g : i = n
      · subst g; exact .inr e
      · exact .inl ⟨i, by omega, e⟩
theorem rectS_mem (z x y : Int) (nx n : Nat) (t : Int × Int) : t ∈ rectS z x y nx n ↔ ∃ i j : Nat, i < nx ∧ j < n ∧ t = (idD z (x + i) (y + j), idD z (x + i) (y + j)) := by
  induction n with
  | zero => simp [rectS]
  | succ n ih =>
    rw [rectS, List.mem_append, ih, rowS_mem]
    constructor
    · rintro (⟨i, j, h, g, e⟩ | ⟨i, h, e⟩)
      · exact ⟨i, j, h, by omega, e⟩
      · exact ⟨i, n, h, by omega, e⟩
    · rintro ⟨i, j, h, g, e⟩
      by_cases g' : j = n
      · subst g'; exact .inr ⟨i, h, e⟩
      · exact .inl ⟨i, j, h, by omega, e⟩
theorem rectS_wide (z x y : Int) (nx n : Nat) : WideS (rectS z x y nx n) := fun t ht => by
  obtain ⟨i, j, _, _, rfl⟩ := (rectS_mem z x y nx n t).1 ht
  have := idD_bd z (x + i) (y + j)
  dsimp only
  omega
theorem rowS_wide (z y x : Int) (n : Nat) : WideS (rowS z y x n) := fun t ht => by
  obtain ⟨i, _, rfl⟩ := (rowS_mem z y x n t).1 ht
  have := idD_bd z (x + i) y
  dsimp only
  omega
theorem wide_app (l m : List (Int × Int)) (h : WideS l) (g : WideS m) : WideS (l ++ m) := fun t ht => by
  rcases List.mem_append.1 ht with ht | ht
  · exact h t ht
  · exact g t ht
def SpEnd (L : List (Int × Int)) (E : Int) (w : World) (e : Ending) (w' : World) : Prop := ∃ v, e = .returned (.tuple #[v, .int .i64 E]) ∧ SpansAt w' v L ∧ Below w.heap.size w w'
def spL (L : List (Int × Int)) (most : Int) : List (Int × Int) := if most < (L.length : Int) then [] else L
def spE (L : List (Int × Int)) (most : Int) : Int := if most < (L.length : Int) then 21 else 0
/-- A rectangle's five cells. -/
def Box5 (w : World) (h : Nat) (z x0 y0 x1 y1 : Int) : Prop := w.cell? ⟨h, 0, none⟩ = some (.int .i64 z) ∧ w.cell? ⟨h, 1, none⟩ = some (.int .i64 x0) ∧ w.cell? ⟨h, 2, none⟩ = some (.int .i64 y0) ∧ w.cell? ⟨h, 3, none⟩ = some (.int .i64 x1) ∧ w.cell? ⟨h, 4, none⟩ = some (.int .i64 y1)
theorem Box5.below {w w' : World} {h : Nat} {z x0 y0 x1 y1 : Int} (b : Box5 w h z x0 y0 x1 y1) (hb : Below w.heap.size w w') : Box5 w' h z x0 y0 x1 y1 :=
  ⟨scell_later hb b.1, scell_later hb b.2.1, scell_later hb b.2.2.1, scell_later hb b.2.2.2.1, scell_later hb b.2.2.2.2⟩
set_option maxHeartbeats 4000000 in
set_option maxRecDepth 20000 in
theorem rspans_in (z x0 y0 x1 y1 most : Int) (nx ny : Nat) (hx : x1 = x0 + nx - 1) (hy : y1 = y0 + ny - 1) (hN : ny * nx ≤ 90000) (m0 : 1 ≤ most) (m1 : most ≤ 4096) (h : ckE z x0 y0 x1 y1 = 0) (w : World) :
    Calls Tryd.prog 16 #[.agg #[.int .i64 z, .int .i64 x0, .int .i64 y0, .int .i64 x1, .int .i64 y1], .int .i64 most] w
      (SpEnd (spL (puts [] (rectS z x0 y0 nx ny)) most) (spE (puts [] (rectS z x0 y0 nx ny)) most) w) := by
  have h0 := fun w => rcheck_any z x0 y0 x1 y1 w
  obtain ⟨q1, q2, r1, r2, r3, r4, r5, r6⟩ := ck_in z x0 y0 x1 y1 h
  have b1 : decide (most < 1) = false := decide_eq_false (by omega)
  have b2 : decide (4096 < most) = false := decide_eq_false (by omega)
  clear q1 q2
  rw [h] at h0
  have H0 := Lib.hid h0
  have HX := Lib.hid hx
  have HY := Lib.hid hy
  have hxb : (nx : Int) ≤ 67108864 := by omega
  have hyb : (ny : Int) ≤ 67108864 := by omega
  clear h0 h hx hy
  go_enter Tryd.func16, Tryd.ntmps16
  go_wp2_with fail
  refine (H0.out _).mono ?_
  rintro e w1 ⟨rfl, hb⟩
  obtain ⟨c0, c1, c2, c3, c4, _, hb1⟩ := kept5 hb
  have B1 := Lib.hid (show Box5 w1 w.heap.size z x0 y0 x1 y1 from ⟨c0, c1, c2, c3, c4⟩)
  clear hb H0
  go_wp2_with fail
  clear c0 c1 c2 c3 c4
  go_loopw [7, 8] (fun o s wr => ∃ j : Nat, j ≤ ny ∧ s = .int .i64 (y0 + j) ∧ Hid (SpansAt wr o (puts [] (rectS z x0 y0 nx j))) ∧ Hid (Box5 wr w.heap.size z x0 y0 x1 y1) ∧ Below w.heap.size w wr) (fun _ s _ => ny - (intOf s - y0).toNat)
  case atStart => exact ⟨0, Nat.zero_le _, by rw [show y0 + ((0 : Nat) : Int) = y0 from by omega], Lib.hid (spans_nil _), B1, hb1⟩
  case round =>
    clear B1 hb1
    obtain ⟨j, hj, rfl, HO, HB, hbw⟩ := hrel
    obtain ⟨c0, c1, c2, c3, c4⟩ := HB.out
    by_cases hlt : j < ny
    · have hle : y0 + (j : Int) ≤ y1 := by have := HY.out; omega
      have hmul : (j + 1) * nx ≤ ny * nx := Nat.mul_le_mul_right nx hlt
      rw [Nat.succ_mul] at hmul
      go_wp2_with fail
      clear c0 c1 c2 c3 c4
      go_loopw [7, 9] (fun o s wx => ∃ i : Nat, i ≤ nx ∧ s = .int .i64 (x0 + i) ∧ Hid (SpansAt wx o (puts [] (rectS z x0 y0 nx j ++ rowS z (y0 + j) x0 i))) ∧ Hid (Box5 wx w.heap.size z x0 y0 x1 y1) ∧ Below w.heap.size w wx) (fun _ s _ => nx - (intOf s - x0).toNat)
      case atStart => exact ⟨0, Nat.zero_le _, by rw [show x0 + ((0 : Nat) : Int) = x0 from by omega], Lib.hid (by rw [rowS, List.append_nil]; exact HO.out), HB, hbw⟩
      case round =>
        clear HO HB hbw
        obtain ⟨i, hi, rfl, HO, HB, hbw⟩ := hrel
        obtain ⟨c0, c1, c2, c3, c4⟩ := HB.out
        by_cases hlx : i < nx
        · have hlx' : x0 + (i : Int) ≤ x1 := by have := HX.out; omega
          obtain ⟨d0, d1⟩ := idD_bd z (x0 + i) (y0 + j)
          have HI := Lib.hid (fun w => rid_any z (x0 + i) (y0 + j) w)
          have hlen := puts_len [] (rectS z x0 y0 nx j ++ rowS z (y0 + j) x0 i)
          rw [List.length_nil, List.length_append, rectS_len, rowS_len] at hlen
          have HP := Lib.hid (fun (v : Value) (W : World) (hv : SpansAt W v (puts [] (rectS z x0 y0 nx j ++ rowS z (y0 + j) x0 i))) => rput_any v _ (idD z (x0 + i) (y0 + j)) (idD z (x0 + i) (y0 + j)) d0 (by omega) d0 (by omega) (puts_wide _ _ wide_nil (wide_app _ _ (rectS_wide _ _ _ _ _) (rowS_wide _ _ _ _))) (by omega) W hv)
          have HS : Hid (puts [] (rectS z x0 y0 nx j ++ rowS z (y0 + j) x0 (i + 1)) = putL (puts [] (rectS z x0 y0 nx j ++ rowS z (y0 + j) x0 i)) (idD z (x0 + i) (y0 + j), idD z (x0 + i) (y0 + j))) := Lib.hid (by rw [rowS, ← List.append_assoc, puts_snoc])
          clear hlen
          generalize idD z (x0 + i) (y0 + j) = D at *
          generalize plE z (x0 + i) (y0 + j) = E at *
          go_wp2_with fail
          refine (HI.out _).mono ?_
          rintro e w3 ⟨rfl, hb3⟩
          have HO3 := Lib.hid (HO.out.below hb3)
          have HB3 := Lib.hid (HB.out.below hb3)
          have hbw3 := hbw.trans (hb3.mono hbw.size)
          clear hb3 hbw c0 c1 c2 c3 c4 HO HB HI
          go_wp2_with fail
          refine (HP.out _ _ HO3.out).mono ?_
          rintro e w4 ⟨v4, rfl, hv4, hb4⟩
          have HV4 := Lib.hid hv4
          have HB4 := Lib.hid (HB3.out.below hb4)
          have hbw4 := hbw3.trans (hb4.mono hbw3.size)
          clear hb4 hbw3 HO3 HB3 HP hv4
          go_wp2_with fail
          go_roundw
          case rel => exact ⟨i + 1, by omega, by rw [show x0 + ((i + 1 : Nat) : Int) = x0 + i + 1 from by omega], Lib.hid (by rw [HS.out]; exact HV4.out), HB4, hbw4⟩
          case measure => simp only [intOf]; omega
        · obtain rfl : i = nx := by omega
          have hlx' : decide (x0 + (i : Int) ≤ x1) = false := decide_eq_false (by have := HX.out; omega)
          go_wp2_with fail
          go_roundw
          case rel => exact ⟨j + 1, by omega, by rw [show y0 + ((j + 1 : Nat) : Int) = y0 + j + 1 from by omega], Lib.hid (by rw [rectS]; exact HO.out), HB, hbw⟩
          case measure => simp only [intOf]; omega
    · obtain rfl : j = ny := by omega
      have hle : decide (y0 + (j : Int) ≤ y1) = false := decide_eq_false (by have := HY.out; omega)
      generalize hL : puts [] (rectS z x0 y0 nx j) = L at *
      clear hL
      obtain ⟨al, cap, rfl, _⟩ := HO.out
      by_cases hm : most < (L.length : Int)
      · go_wp2_with fail
        go_ret2
        exact ⟨_, by rw [show spE L most = 21 from if_pos hm]; rfl, by rw [show spL L most = [] from if_pos hm]; exact spans_nil _, hbw⟩
      · have hm' : decide (most < (L.length : Int)) = false := decide_eq_false hm
        go_wp2_with fail
        go_ret2
        exact ⟨_, by rw [show spE L most = 0 from if_neg (by omega)]; rfl, by rw [show spL L most = L from if_neg (by omega)]; exact HO.out, hbw⟩
/-- Where it is told at once why there are none. -/
theorem rspans_no (z x0 y0 x1 y1 most E : Int) (h : E = (if most < 1 ∨ 4096 < most then 2 else ckE z x0 y0 x1 y1)) (hE : E ≠ 0) (w : World) :
    Calls Tryd.prog 16 #[.agg #[.int .i64 z, .int .i64 x0, .int .i64 y0, .int .i64 x1, .int .i64 y1], .int .i64 most] w (SpEnd [] E w) := by
  have h0 := fun w => rcheck_any z x0 y0 x1 y1 w
  generalize ckE z x0 y0 x1 y1 = C at *
  have H0 := Lib.hid h0
  clear h0
  by_cases m0 : most < 1
  · obtain rfl : E = 2 := by rw [h, if_pos (.inl m0)]
    clear h hE
    go_enter Tryd.func16, Tryd.ntmps16
    go_wp2_with fail
    go_ret2
    exact ⟨_, rfl, spans_nil _, by go_grown⟩
  · by_cases m1 : 4096 < most
    · obtain rfl : E = 2 := by rw [h, if_pos (.inr m1)]
      clear h hE
      go_enter Tryd.func16, Tryd.ntmps16
      go_wp2_with fail
      go_ret2
      exact ⟨_, rfl, spans_nil _, by go_grown⟩
    · obtain rfl : E = C := by rw [h, if_neg (by omega)]
      have hne : (E != 0) = true := by simpa using hE
      have b1 : decide (most < 1) = false := decide_eq_false m0
      have b2 : decide (4096 < most) = false := decide_eq_false m1
      clear h hE
      go_enter Tryd.func16, Tryd.ntmps16
      go_wp2_with fail
      refine (H0.out _).mono ?_
      rintro e w1 ⟨rfl, hb⟩
      obtain ⟨c0, c1, c2, c3, c4, _, hb1⟩ := kept5 hb
      clear hb
      go_wp2_with fail
      go_ret2
      exact ⟨_, rfl, spans_nil _, hb1⟩
end Go.Proofs.YthlekifagidijaaDoor
