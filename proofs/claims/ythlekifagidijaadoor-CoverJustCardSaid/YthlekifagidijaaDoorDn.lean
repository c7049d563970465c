/- The contract of Down: the four tiles in a tile, by rising identifiers. -/
import Derived.Test.YthlekifagidijaaDoorRw
namespace Go.Proofs.YthlekifagidijaaDoor
open Go.RowKit
set_option linter.unusedVariables false
set_option linter.unusedSimpArgs false
theorem kid_n (k : Nat) (x y i : Int) : kid k x y i = hptX (k + 1) (4 * hpl k x y + i) := rfl
def kidT (k : Nat) (x y : Int) (i : Int) : Int × Int × Int := ((k : Int) + 1, (kid k x y i).1, (kid k x y i).2)
def dnE (z x y : Int) : Int := if plE z x y = 0 then (if z = 26 then 6 else 0) else plE z x y
def dnL (z x y : Int) : List (Int × Int × Int) := if dnE z x y = 0 then [kidT z.toNat x y 0, kidT z.toNat x y 1, kidT z.toNat x y 2, kidT z.toNat x y 3] else []
def DownEnd (L : List (Int × Int × Int)) (E : Int) (w : World) (e : Ending) (w' : World) : Prop := ∃ v, e = .returned (.tuple #[v, .int .i64 E]) ∧ OwnT w' w.heap.size 32 v L ∧ Below w.heap.size w w'
theorem rg_next (k : Nat) (x y : Int) (hk : k ≤ 25) (h : In k x y) : rgE k x y (k + 1 : Int) = 0 ∧ rgF k x y (k + 1 : Int) = bas (k + 1) + 4 * hpl k x y := by
  obtain ⟨e, d⟩ := pl_of k (by omega) x y h
  have e1 : rgE k x y (k + 1 : Int) = 0 := by unfold rgE; rw [if_pos e, if_neg (by omega)]
  refine ⟨e1, ?_⟩
  unfold rgF
  rw [if_pos e1, d, show ((k : Int) + 1 - k).toNat = 1 from by omega, show ((k : Int) + 1).toNat = k + 1 from by omega, show p4 1 = 4 from rfl]
  omega
theorem of_kid (k : Nat) (x y i : Int) (hk : k ≤ 25) (h : In k x y) (i0 : 0 ≤ i) (i1 : i < 4) : ofZ (bas (k + 1) + 4 * hpl k x y + i) = (kidT k x y i).1 ∧ ofX (bas (k + 1) + 4 * hpl k x y + i) = (kidT k x y i).2.1 ∧ ofY (bas (k + 1) + 4 * hpl k x y + i) = (kidT k x y i).2.2 ∧ ofE (bas (k + 1) + 4 * hpl k x y + i) = 0 := by
  have hb := hpl_bd k x y h
  have e4 : p4 (k + 1) = 4 * p4 k := rfl
  obtain ⟨a, b, c, d⟩ := of_at (k + 1) (bas (k + 1) + 4 * hpl k x y + i) (by omega) (by omega) (by omega)
  rw [show bas (k + 1) + 4 * hpl k x y + i - bas (k + 1) = 4 * hpl k x y + i from by omega, ← kid_n] at b c
  exact ⟨by rw [a]; simp only [kidT]; omega, b, c, d⟩
theorem kid_bd (k : Nat) (x y i : Int) (hk : k ≤ 25) (h : In k x y) (i0 : 0 ≤ i) (i1 : i < 4) : 0 ≤ (kidT k x y i).2.1 ∧ (kidT k x y i).2.1 < 67108864 ∧ 0 ≤ (kidT k x y i).2.2 ∧ (kidT k x y i).2.2 < 67108864 := by
  obtain ⟨⟨a, b, c, d⟩, _⟩ := kid_facts k x y i h i0 i1
  have := p2_top (k + 1) (by omega)
  simp only [kidT]
  omega
theorem Tryd.info32 : (Tryd.prog.info? 32).map (fun i => (i.zero, i.size, i.bytes)) = some (some (.agg #[.int .i64 0, .int .i64 0, .int .i64 0]), 3, 24) := by kernel_rfl
def zero12 : Array Value := #[.int .i64 0, .int .i64 0, .int .i64 0, .int .i64 0, .int .i64 0, .int .i64 0, .int .i64 0, .int .i64 0, .int .i64 0, .int .i64 0, .int .i64 0, .int .i64 0]
theorem make_four (W : World) : (Instr.makeSlice 81 (.int .i64 4) (.int .i64 4)).run Tryd.prog W = .ok (.slice (some ⟨W.heap.size, 0, none⟩) 4 4) (W.alloc (.cells zero12 32)) := by
  obtain ⟨i0, hi, hz0, hz1, hz2⟩ := info_parts Tryd.info32
  have := run_make (P := Tryd.prog) W 81 32 i0 (.agg #[.int .i64 0, .int .i64 0, .int .i64 0]) Tryd.underlying81 hi hz0 .i64 .i64 (4 : Int) (4 : Int) (by omega) (by omega) (by rw [hz2]; decide) (by decide)
  rw [this, hz1, show madeCells (Value.agg #[.int .i64 0, .int .i64 0, .int .i64 0]).cells (Int.toNat 4 * 3) = zero12 from by kernel_rfl]
  rfl
/-- The four, as far as they are laid. -/
def rowL (f : Int → Int × Int × Int) (j : Nat) : List (Int × Int × Int) := [if 0 < j then f 0 else (0, 0, 0), if 1 < j then f 1 else (0, 0, 0), if 2 < j then f 2 else (0, 0, 0), if 3 < j then f 3 else (0, 0, 0)]
theorem rowL_at (f : Int → Int × Int × Int) (j : Nat) (h : j < 4) : (rowL f j)[j]? = some (0, 0, 0) := by
  rcases (by omega : j = 0 ∨ j = 1 ∨ j = 2 ∨ j = 3) with rfl | rfl | rfl | rfl <;> rfl
theorem rowL_set (f : Int → Int × Int × Int) (j : Nat) (h : j < 4) : ((((flat (rowL f j)).set (j * 3) (.int .i64 (f j).1)).set (j * 3 + 1) (.int .i64 (f j).2.1)).set (j * 3 + 2) (.int .i64 (f j).2.2)) = flat (rowL f (j + 1)) := by
  rcases (by omega : j = 0 ∨ j = 1 ∨ j = 2 ∨ j = 3) with rfl | rfl | rfl | rfl <;> simp [rowL, flat]
theorem rowL_len (f : Int → Int × Int × Int) (j : Nat) : (rowL f j).length = 4 := rfl
theorem down_in (k : Nat) (x y : Int) (hk : k ≤ 25) (h : In k x y) (w : World) (hq : QTab w) : Calls Tryd.prog 51 #[.agg #[.int .i64 k, .int .i64 x, .int .i64 y]] w (DownEnd [kidT k x y 0, kidT k x y 1, kidT k x y 2, kidT k x y 3] 0 w) := by
  obtain ⟨e, d⟩ := pl_of k (by omega) x y h
  obtain ⟨r1, r2⟩ := rg_next k x y hk h
  have h0 := fun w hq => id_any k x y w hq
  have h1 := fun w hq => range_any k x y (k + 1 : Int) w hq
  rw [e] at h0
  rw [r1, r2] at h1
  have hb := hpl_bd k x y h
  have hn := bas_nn (k + 1)
  have ht := bas_top (k + 1 + 1) (by omega)
  rw [bas_succ, show p4 (k + 1) = 4 * p4 k from rfl] at ht
  have hF : 0 ≤ bas (k + 1) + 4 * hpl k x y ∧ bas (k + 1) + 4 * hpl k x y + 4 ≤ 6004799503160661 := by omega
  have HO := Lib.hid (fun i i0 i1 => of_kid k x y i hk h i0 i1)
  generalize bas (k + 1) + 4 * hpl k x y = F at *
  generalize idD k x y = D at *
  generalize rgT k x y (k + 1 : Int) = T at *
  have H0 := Lib.hid h0
  have H1 := Lib.hid h1
  clear h0 h1 hb hn ht r1 r2 e d
  obtain ⟨F0, F1⟩ := hF
  go_enter Tryd.func51, Tryd.ntmps51
  go_wp2_with fail
  refine (H0.out _ (hq.below (by go_grown))).mono ?_
  rintro e w1 ⟨rfl, hb⟩
  obtain ⟨hs, hb1, c0, c1, c2, f⟩ := kept3 hb
  clear hb
  go_wp2_with fail
  refine (H1.out _ (hq.below hb1)).mono ?_
  rintro e w2 ⟨rfl, hb⟩
  have hb2 := hb1.trans (hb.mono (by omega))
  have hs2 := hb.size
  clear hb hb1 c0 c1 c2 f H0 H1
  have hmk := make_four
  have hO : (w2.alloc (.cells zero12 32)).ownsRow (w.heap.size + 1) 32 3 (.slice (some ⟨w2.heap.size, 0, none⟩) 4 4) 4 (flat (rowL (kidT k x y) 0)) := World.ownsRow_lit w2 zero12 4 (by omega) (by unfold maxLen; omega) rfl
  have HOW := Lib.hid hO
  clear hO
  go_wp2_with fail
  clear hmk
  go_loopw [34] (fun i wr => ∃ j : Nat, j ≤ 4 ∧ i = .int .i64 j ∧ wr.ownsRow (w.heap.size + 1) 32 3 (.slice (some ⟨w2.heap.size, 0, none⟩) 4 4) 4 (flat (rowL (kidT k x y) j)) ∧ w2.heap.size < wr.heap.size ∧ Below w.heap.size w wr) (fun i _ => 4 - (intOf i).toNat)
  case atStart => exact ⟨0, by omega, rfl, HOW.out, by simp, hb2.alloc hb2.size _⟩
  case round =>
    clear HOW
    obtain ⟨j, hj, rfl, hown, hsz, hbw⟩ := hrel
    by_cases hlt : j < 4
    · have hOF := of_any (F + j) (by omega)
      obtain ⟨o1, o2, o3, o4⟩ := HO.out j (by omega) (by omega)
      rw [o1, o2, o3, o4] at hOF
      have HOF := Lib.hid hOF
      have HS := Lib.hid (rowL_set (kidT k x y) j hlt)
      have hl := flat_at _ j _ (rowL_at (kidT k x y) j hlt)
      have hj4 : (j : Int) < 4 := by omega
      clear hOF o1 o2 o3 o4
      generalize (kidT k x y j).1 = a at *
      generalize (kidT k x y j).2.1 = b at *
      generalize (kidT k x y j).2.2 = c at *
      have HOWN := Lib.hid hown
      have HL := Lib.hid hl
      clear hown hl
      go_wp2_with fail
      refine (HOF.out _ (hq.below hbw)).mono ?_
      rintro e w3 ⟨rfl, hb⟩
      have hbw3 := hbw.trans (hb.mono hbw.size)
      have hs3 := hb.size
      have hown3 : w3.ownsRow (w.heap.size + 1) 32 3 (.slice (some ⟨w2.heap.size, 0, none⟩) 4 4) 4 (flat (rowL (kidT k x y) j)) := by
        have : OwnT wr (w.heap.size + 1) 32 (.slice (some ⟨w2.heap.size, 0, none⟩) 4 4) (rowL (kidT k x y) j) := HOWN.out
        exact this.below hb
      have c0 := (World.ownsRow.cellAt hown3 (j * 3) (by omega)).trans HL.out.1
      have c1 := (World.ownsRow.cellAt hown3 (j * 3 + 1) (by omega)).trans HL.out.2.1
      have c2 := (World.ownsRow.cellAt hown3 (j * 3 + 2) (by omega)).trans HL.out.2.2
      have f := World.ownsRow.frozenAt hown3
      have HO3 := Lib.hid hown3
      clear hb hown3
      go_wp2_with fail
      go_roundw
      case rel =>
        have q1 := (World.ownsRow.stored HO3.out (j * 3) (.int .i64 a)).1
        have q2 := (World.ownsRow.stored q1 (j * 3 + 1) (.int .i64 b)).1
        have q3 := (World.ownsRow.stored q2 (j * 3 + 2) (.int .i64 c)).1
        rw [HS.out] at q3
        exact ⟨j + 1, by omega, by go_num, q3, by simp only [World.size_setCell]; omega, ((hbw3.setCell (p := ⟨w2.heap.size, j * 3, none⟩) (by show w.heap.size ≤ w2.heap.size; omega) _).setCell (p := ⟨w2.heap.size, j * 3 + 1, none⟩) (by show w.heap.size ≤ w2.heap.size; omega) _).setCell (p := ⟨w2.heap.size, j * 3 + 2, none⟩) (by show w.heap.size ≤ w2.heap.size; omega) _⟩
      case measure => simp [intOf]; omega
    · obtain rfl : j = 4 := by omega
      go_wp2_with fail
      go_ret2
      refine ⟨_, rfl, ?_, hbw⟩
      exact OwnT.mono (B := w.heap.size + 1) hown (by omega)
theorem dn_in (k : Nat) (x y : Int) (hk : k ≤ 25) (h : In k x y) : dnE k x y = 0 ∧ dnL k x y = [kidT k x y 0, kidT k x y 1, kidT k x y 2, kidT k x y 3] := by
  have e := (pl_of k (by omega) x y h).1
  have e0 : dnE k x y = 0 := by unfold dnE; rw [if_pos e, if_neg (by omega)]
  exact ⟨e0, by unfold dnL; rw [if_pos e0, toN]⟩
theorem dn_top (x y : Int) (h : plE 26 x y = 0) : dnE 26 x y = 6 ∧ dnL 26 x y = [] := by
  have e0 : dnE 26 x y = 6 := by unfold dnE; rw [if_pos h, if_pos rfl]
  exact ⟨e0, by unfold dnL; rw [if_neg (by omega)]⟩
theorem dn_no (z x y : Int) (h : plE z x y ≠ 0) : dnE z x y = plE z x y ∧ dnL z x y = [] := by
  have e0 : dnE z x y = plE z x y := if_neg h
  exact ⟨e0, by unfold dnL; rw [if_neg (by omega)]⟩
theorem down_any (z x y : Int) (w : World) (hq : QTab w) : Calls Tryd.prog 51 #[.agg #[.int .i64 z, .int .i64 x, .int .i64 y]] w (DownEnd (dnL z x y) (dnE z x y) w) := by
  have h0 := fun w hq => id_any z x y w hq
  by_cases he : plE z x y = 0
  · obtain ⟨hz, hin, _⟩ := pl_in z x y he
    by_cases h26 : z = 26
    · subst h26
      obtain ⟨d1, d2⟩ := dn_top x y he
      rw [d1, d2]
      rw [he] at h0
      generalize idD 26 x y = D at *
      have H0 := Lib.hid h0
      clear h0 d1 d2 he hin hz
      go_enter Tryd.func51, Tryd.ntmps51
      go_wp2_with fail
      refine (H0.out _ (hq.below (by go_grown))).mono ?_
      rintro e w1 ⟨rfl, hb⟩
      obtain ⟨hs, hb1, c0, c1, c2, f⟩ := kept3 hb
      clear hb
      go_wp2_with fail
      go_ret2
      exact ⟨_, rfl, ownT_nil _ _ _, hb1⟩
    · obtain ⟨k, hk, rfl⟩ := zoom_nat z hz
      rw [toN] at hin
      obtain ⟨d1, d2⟩ := dn_in k x y (by omega) hin
      rw [d1, d2]
      exact down_in k x y (by omega) hin w hq
  · obtain ⟨d1, d2⟩ := dn_no z x y he
    rw [d1, d2]
    have hne : (plE z x y != 0) = true := by simpa using he
    generalize idD z x y = D at *
    generalize plE z x y = E at *
    have H0 := Lib.hid h0
    clear h0 d1 d2 he
    go_enter Tryd.func51, Tryd.ntmps51
    go_wp2_with fail
    refine (H0.out _ (hq.below (by go_grown))).mono ?_
    rintro e w1 ⟨rfl, hb⟩
    obtain ⟨hs, hb1, c0, c1, c2, f⟩ := kept3 hb
    clear hb
    go_wp2_with fail
    go_ret2
    exact ⟨_, rfl, ownT_nil _ _ _, hb1⟩
end Go.Proofs.YthlekifagidijaaDoor
