/- Contract of the program's within: what of a rectangle lies in a tile, handed on to the function that keeps, by a way down the quarters. -/
import Derived.Test.YthlekifagidijaaDoorPw
namespace Go.Proofs.YthlekifagidijaaDoor
open Go.RowKit
set_option linter.unusedVariables false
set_option linter.unusedSimpArgs false
def WithEnd (B bl bm m : Nat) (v : Value) (L W : List (Int × Int)) (w : World) (e : Ending) (w' : World) : Prop := ∃ v', e = .returned (.bool (feed m L W).2) ∧ St w' B bl bm m v' (feed m L W).1 ∧ Fr B bl v w v' w'
def keepF (bl bm : Nat) : Value := .func (.func 33) #[] #[.pointer (some ⟨bl, 0, none⟩), .pointer (some ⟨bm, 0, none⟩)]
/-- The first j of the four tiles' lists. -/
def preK (x0 y0 x1 y1 : Int) (n k : Nat) (x y : Int) : Nat → List (Int × Int)
  | 0 => []
  | j + 1 => preK x0 y0 x1 y1 n k x y j ++ wl x0 y0 x1 y1 n (k + 1) (kid k x y j).1 (kid k x y j).2
theorem preK_all (x0 y0 x1 y1 : Int) (n k : Nat) (x y : Int) (h : ¬ Miss x0 y0 x1 y1 (n + 1) x y) (g : ¬ Hold x0 y0 x1 y1 (n + 1) x y) : preK x0 y0 x1 y1 n k x y 4 = wl x0 y0 x1 y1 (n + 1) k x y := by
  rw [wl_part _ _ _ _ _ _ _ _ h g]
  simp only [preK, List.nil_append, List.append_assoc]
  rfl
theorem wl_wide (x0 y0 x1 y1 : Int) (n k : Nat) (x y : Int) (hk : k + n ≤ 26) (h : In k x y) : WideS (wl x0 y0 x1 y1 n k x y) := by
  intro t ht
  have h3 := (wl_asc x0 y0 x1 y1 n k x y h).1 t ht
  have hb := hpl_bd k x y h
  have hp := p4_pos n
  have hn := bas_nn (k + n)
  have htop := bas_top (k + n + 1) (by omega)
  have hpp : hpl k x y * p4 n + p4 n ≤ p4 (k + n) := by
    rw [p4_add]
    have := Int.mul_le_mul_of_nonneg_right (show hpl k x y + 1 ≤ p4 k by omega) (show 0 ≤ p4 n by omega)
    rw [Int.add_mul] at this
    omega
  have hnn := Int.mul_nonneg hb.1 (show 0 ≤ p4 n by omega)
  rw [bas_succ] at htop
  unfold fromT toT at h3
  omega
theorem preK_wide (x0 y0 x1 y1 : Int) (n k : Nat) (x y : Int) (hk : k + (n + 1) ≤ 26) (h : In k x y) (j : Nat) (hj : j ≤ 4) : WideS (preK x0 y0 x1 y1 n k x y j) := by
  induction j with
  | zero => intro t ht; simp [preK] at ht
  | succ j ih =>
    intro t ht
    rcases List.mem_append.1 ht with ht | ht
    · exact ih (by omega) t ht
    · exact wl_wide x0 y0 x1 y1 n (k + 1) _ _ (by omega) (kid_facts k x y j h (by omega) (by omega)).1 t ht
theorem feed_wideS (m : Nat) (L W : List (Int × Int)) (hL : WideS L) (hW : WideS W) : WideS (feed m L W).1 := by
  have := feed_wide m L W (fun d => 0 ≤ d ∧ d ≤ 18446744073709551615) (fun t ht => by have := hL t ht; omega) (fun t ht => by have := hW t ht; omega)
  intro t ht
  have := this t ht
  omega
theorem with_end {B bl bm m : Nat} {v : Value} {L W : List (Int × Int)} {w w' : World} (hs : St w B bl bm m v L) (hB : B ≤ w.heap.size) (hb : Below w.heap.size w w') (h : feed m L W = (L, false)) : WithEnd B bl bm m v L W w (.returned (.bool false)) w' := by
  unfold WithEnd
  rw [h]
  exact ⟨v, rfl, hs.below hb, Fr.of_below hb hB⟩
/-- The boxes of a call: the rectangle's, the tile's, the square's. -/
def Boxes (w W : World) (s7 : Nat) (z x0 y0 x1 y1 k x y a b c d : Int) : Prop :=
  W.cell? ⟨w.heap.size, 0, none⟩ = some (.int .i64 z) ∧ W.cell? ⟨w.heap.size, 1, none⟩ = some (.int .i64 x0) ∧ W.cell? ⟨w.heap.size, 2, none⟩ = some (.int .i64 y0) ∧ W.cell? ⟨w.heap.size, 3, none⟩ = some (.int .i64 x1) ∧ W.cell? ⟨w.heap.size, 4, none⟩ = some (.int .i64 y1) ∧
  W.cell? ⟨w.heap.size + 1, 0, none⟩ = some (.int .i64 k) ∧ W.cell? ⟨w.heap.size + 1, 1, none⟩ = some (.int .i64 x) ∧ W.cell? ⟨w.heap.size + 1, 2, none⟩ = some (.int .i64 y) ∧
  W.cell? ⟨s7, 0, none⟩ = some (.int .i64 z) ∧ W.cell? ⟨s7, 1, none⟩ = some (.int .i64 a) ∧ W.cell? ⟨s7, 2, none⟩ = some (.int .i64 b) ∧ W.cell? ⟨s7, 3, none⟩ = some (.int .i64 c) ∧ W.cell? ⟨s7, 4, none⟩ = some (.int .i64 d) ∧
  Below w.heap.size w W ∧ w.heap.size + 2 ≤ s7 ∧ s7 < W.heap.size
theorem Boxes.later {w W W' : World} {s7 : Nat} {z x0 y0 x1 y1 k x y a b c d : Int} (h : Boxes w W s7 z x0 y0 x1 y1 k x y a b c d) (hb : Below W.heap.size W W') : Boxes w W' s7 z x0 y0 x1 y1 k x y a b c d := by
  obtain ⟨c0, c1, c2, c3, c4, d0, d1, d2, e0, e1, e2, e3, e4, hb0, h1, h2⟩ := h
  exact ⟨scell_later hb c0, scell_later hb c1, scell_later hb c2, scell_later hb c3, scell_later hb c4, scell_later hb d0, scell_later hb d1, scell_later hb d2, scell_later hb e0, scell_later hb e1, scell_later hb e2, scell_later hb e3, scell_later hb e4, hb0.trans (hb.mono hb0.size), h1, Nat.lt_of_lt_of_le h2 hb.size⟩
theorem boxes_made {w w1 : World} {z x0 y0 x1 y1 k x y : Int} {T U T2 : TypeId} (hb : Below ((w.alloc (.cells #[.int .i64 z, .int .i64 x0, .int .i64 y0, .int .i64 x1, .int .i64 y1] T)).alloc (.cells #[.int .i64 k, .int .i64 x, .int .i64 y] U)).heap.size ((w.alloc (.cells #[.int .i64 z, .int .i64 x0, .int .i64 y0, .int .i64 x1, .int .i64 y1] T)).alloc (.cells #[.int .i64 k, .int .i64 x, .int .i64 y] U)) w1) (a b c d : Int) :
    Boxes w (w1.alloc (.cells #[.int .i64 z, .int .i64 a, .int .i64 b, .int .i64 c, .int .i64 d] T2)) w1.heap.size z x0 y0 x1 y1 k x y a b c d := by
  obtain ⟨c0, c1, c2, c3, c4, d0, d1, d2, hb1⟩ := kept53 hb
  have hs1 := hb.size
  simp only [World.size_alloc] at hs1
  have g := (Below.refl w1.heap.size w1).alloc (Nat.le_refl _) (.cells #[.int .i64 z, .int .i64 a, .int .i64 b, .int .i64 c, .int .i64 d] T2)
  refine ⟨scell_later g c0, scell_later g c1, scell_later g c2, scell_later g c3, scell_later g c4, scell_later g d0, scell_later g d1, scell_later g d2, ?_, ?_, ?_, ?_, ?_, hb1.trans (g.mono hb1.size), by omega, by simp⟩
  all_goals simp [go_sem]
set_option maxHeartbeats 2000000 in
set_option maxRecDepth 20000 in
theorem within_miss (n k : Nat) (x y z x0 y0 x1 y1 : Int) (B bl bm m : Nat) (v : Value) (L : List (Int × Int)) (w : World) (hk : k + n ≤ 26) (hz : z = k + n) (h : In k x y) (hB : B ≤ w.heap.size) (hs : St w B bl bm m v L) (hm : Miss x0 y0 x1 y1 n x y) :
    Calls Tryd.prog 32 #[.agg #[.int .i64 z, .int .i64 x0, .int .i64 y0, .int .i64 x1, .int .i64 y1], .agg #[.int .i64 k, .int .i64 x, .int .i64 y], keepF bl bm] w (WithEnd B bl bm m v L (wl x0 y0 x1 y1 n k x y) w) := by
  rw [wl_miss _ _ _ _ _ _ _ _ hm]
  have h1 := fun w => square_any k n x y hk h w
  have h2 := fun w => misses_any z x0 y0 x1 y1 z (x * p2 n) (y * p2 n) ((x + 1) * p2 n - 1) ((y + 1) * p2 n - 1) w
  rw [decide_eq_true (show MissR x0 y0 x1 y1 (x * p2 n) (y * p2 n) ((x + 1) * p2 n - 1) ((y + 1) * p2 n - 1) from hm)] at h2
  rw [← hz] at h1
  generalize x * p2 n = a at *
  generalize y * p2 n = b at *
  generalize (x + 1) * p2 n - 1 = c at *
  generalize (y + 1) * p2 n - 1 = d at *
  have H1 := Lib.hid h1
  have H2 := Lib.hid h2
  have HS := Lib.hid hs
  clear h1 h2 hs hm hz
  unfold keepF
  generalize (k : Int) = kk at *
  go_enter Tryd.func32, Tryd.ntmps32
  go_wp2_with fail
  refine (H1.out _).mono ?_
  rintro e w1 ⟨rfl, hb⟩
  have hbx := boxes_made (T2 := 26) hb a b c d
  have d0 := (kept53 hb).1
  clear hb
  go_upto_region 2 with fail
  clear d0
  generalize w1.alloc (.cells #[.int .i64 z, .int .i64 a, .int .i64 b, .int .i64 c, .int .i64 d] 26) = W at *
  generalize w1.heap.size = s7 at *
  have HBX := Lib.hid hbx
  obtain ⟨c0, c1, c2, c3, c4, d0, d1, d2, e0, e1, e2, e3, e4, hb0, i1, i2⟩ := hbx
  go_wp2_with fail
  refine (H2.out _).mono ?_
  rintro e w2 ⟨rfl, hb⟩
  go_wp2_with fail
  go_ret
  exact with_end HS.out hB (hb0.trans (hb.mono hb0.size)) rfl
theorem range_at (n k : Nat) (x y : Int) (hk : k + n ≤ 26) (h : In k x y) : rgE k x y (k + n : Int) = 0 ∧ rgF k x y (k + n : Int) = fromT n k x y ∧ rgT k x y (k + n : Int) = toT n k x y := by
  obtain ⟨e, d⟩ := pl_of k (by omega) x y h
  have e1 : rgE k x y (k + n : Int) = 0 := by unfold rgE; rw [if_pos e, if_neg (by omega)]
  have hn : ((k : Int) + n - k).toNat = n := by omega
  have hkn : ((k : Int) + n).toNat = k + n := by omega
  refine ⟨e1, ?_, ?_⟩
  · unfold rgF fromT; rw [if_pos e1, d, hn, hkn]
  · unfold rgT toT; rw [if_pos e1, d, hn, hkn]
theorem feed_one (m : Nat) (L : List (Int × Int)) (s : Int × Int) : feed m L [s] = (joinP L s, decide (m < (joinP L s).length)) := by
  rw [feed]
  by_cases h : m < (joinP L s).length
  · rw [if_pos h, decide_eq_true h]
  · rw [if_neg h, decide_eq_false h]; rfl
set_option maxHeartbeats 2000000 in
set_option maxRecDepth 20000 in
theorem within_hold (n k : Nat) (x y z x0 y0 x1 y1 : Int) (B bl bm m : Nat) (v : Value) (L : List (Int × Int)) (w : World) (hk : k + n ≤ 26) (hz : z = k + n) (h : In k x y) (hB : B ≤ w.heap.size) (hs : St w B bl bm m v L) (hw : WideS L) (hl : L.length ≤ m) (hm4 : m ≤ 4096) (hq : QTab w) (hm : ¬ Miss x0 y0 x1 y1 n x y) (hh : Hold x0 y0 x1 y1 n x y) :
    Calls Tryd.prog 32 #[.agg #[.int .i64 z, .int .i64 x0, .int .i64 y0, .int .i64 x1, .int .i64 y1], .agg #[.int .i64 k, .int .i64 x, .int .i64 y], keepF bl bm] w (WithEnd B bl bm m v L (wl x0 y0 x1 y1 n k x y) w) := by
  have hwide := wl_wide x0 y0 x1 y1 n k x y hk h
  rw [wl_hold _ _ _ _ _ _ _ _ hm hh] at hwide ⊢
  have hw2 := hwide _ List.mem_cons_self
  have h1 := fun w => square_any k n x y hk h w
  have h2 := fun w => misses_any z x0 y0 x1 y1 z (x * p2 n) (y * p2 n) ((x + 1) * p2 n - 1) ((y + 1) * p2 n - 1) w
  have h3 := fun w => holds_any z x0 y0 x1 y1 z (x * p2 n) (y * p2 n) ((x + 1) * p2 n - 1) ((y + 1) * p2 n - 1) w
  have h4 := fun w hq => range_any k x y (k + n : Int) w hq
  obtain ⟨r1, r2, r3⟩ := range_at n k x y hk h
  rw [r1, r2, r3] at h4
  rw [decide_eq_false (show ¬ MissR x0 y0 x1 y1 (x * p2 n) (y * p2 n) ((x + 1) * p2 n - 1) ((y + 1) * p2 n - 1) from hm)] at h2
  rw [decide_eq_true (show HoldR x0 y0 x1 y1 (x * p2 n) (y * p2 n) ((x + 1) * p2 n - 1) ((y + 1) * p2 n - 1) from hh)] at h3
  rw [← hz] at h1 h4
  generalize x * p2 n = a at *
  generalize y * p2 n = b at *
  generalize (x + 1) * p2 n - 1 = c at *
  generalize (y + 1) * p2 n - 1 = d at *
  generalize fromT n k x y = F at *
  generalize toT n k x y = T at *
  have h5 := fun w hs hB => keep_any B bl bm m v L (F, T) w hs hB hw hw2 hl hm4
  unfold WithEnd
  rw [feed_one]
  have H1 := Lib.hid h1
  have H2 := Lib.hid h2
  have H3 := Lib.hid h3
  have H4 := Lib.hid h4
  have H5 := Lib.hid h5
  have HS := Lib.hid hs
  have HQ := Lib.hid hq
  clear h1 h2 h3 h4 h5 hs hm hz hw hwide hw2 hq r1 r2 r3 hh
  unfold keepF
  generalize (k : Int) = kk at *
  generalize joinP L (F, T) = J at *
  go_enter Tryd.func32, Tryd.ntmps32
  go_wp2_with fail
  refine (H1.out _).mono ?_
  rintro e w1 ⟨rfl, hb⟩
  have hbx := boxes_made (T2 := 26) hb a b c d
  have d0 := (kept53 hb).1
  clear hb
  go_upto_region 2 with fail
  clear d0
  generalize w1.alloc (.cells #[.int .i64 z, .int .i64 a, .int .i64 b, .int .i64 c, .int .i64 d] 26) = W at *
  generalize w1.heap.size = s7 at *
  have HBX := Lib.hid hbx
  obtain ⟨c0, c1, c2, c3, c4, d0, d1, d2, e0, e1, e2, e3, e4, hb0, i1, i2⟩ := hbx
  go_wp2_with fail
  refine (H2.out _).mono ?_
  rintro e w2 ⟨rfl, hb⟩
  replace HBX := Lib.hid (HBX.out.later hb)
  clear c0 c1 c2 c3 c4 d0 d1 d2 e0 e1 e2 e3 e4 hb0 i1 i2 hb
  obtain ⟨c0, c1, c2, c3, c4, d0, d1, d2, e0, e1, e2, e3, e4, hb0, i1, i2⟩ := HBX.out
  go_wp2_with fail
  refine (H3.out _).mono ?_
  rintro e w3 ⟨rfl, hb⟩
  replace HBX := Lib.hid (HBX.out.later hb)
  clear c0 c1 c2 c3 c4 d0 d1 d2 e0 e1 e2 e3 e4 hb0 i1 i2 hb
  obtain ⟨c0, c1, c2, c3, c4, d0, d1, d2, e0, e1, e2, e3, e4, hb0, i1, i2⟩ := HBX.out
  go_wp2_with fail
  refine (H4.out _ (HQ.out.below hb0)).mono ?_
  rintro e w4 ⟨rfl, hb⟩
  have hb4 := hb0.trans (hb.mono hb0.size)
  clear c0 c1 c2 c3 c4 d0 d1 d2 e0 e1 e2 e3 e4 hb0 i1 i2 hb HBX
  go_wp2_with fail
  refine (H5.out _ (HS.out.below hb4) (Nat.le_trans hB hb4.size)).mono ?_
  rintro e w5 ⟨v', rfl, hst, hfr⟩
  have HST := Lib.hid hst
  have HFR := Lib.hid ((Fr.of_below hb4 hB).trans hfr)
  clear hst hfr
  go_wp2_with fail
  go_ret
  exact ⟨_, rfl, HST.out, HFR.out⟩
theorem feed_stop (m : Nat) (L : List (Int × Int)) (x0 y0 x1 y1 : Int) (n k : Nat) (x y : Int) (j : Nat) (h : (feed m L (preK x0 y0 x1 y1 n k x y j)).2 = true) (i : Nat) : feed m L (preK x0 y0 x1 y1 n k x y (j + i)) = feed m L (preK x0 y0 x1 y1 n k x y j) := by
  induction i with
  | zero => rfl
  | succ i ih =>
    rw [← Nat.add_assoc, preK, feed_append, ih, if_pos h]
theorem feed_next (m : Nat) (L : List (Int × Int)) (x0 y0 x1 y1 : Int) (n k : Nat) (x y : Int) (j : Nat) (h : (feed m L (preK x0 y0 x1 y1 n k x y j)).2 = false) : feed m (feed m L (preK x0 y0 x1 y1 n k x y j)).1 (wl x0 y0 x1 y1 n (k + 1) (kid k x y j).1 (kid k x y j).2) = feed m L (preK x0 y0 x1 y1 n k x y (j + 1)) := by
  rw [preK, feed_append, if_neg (by rw [h]; simp)]
theorem kids_at (k : Nat) (x y : Int) (j : Nat) (hj : j < 4) : [kidT k x y 0, kidT k x y 1, kidT k x y 2, kidT k x y 3][j]? = some (kidT k x y j) := by
  rcases (by omega : j = 0 ∨ j = 1 ∨ j = 2 ∨ j = 3) with rfl | rfl | rfl | rfl <;> rfl
set_option maxHeartbeats 4000000 in
set_option maxRecDepth 20000 in
theorem within_part (n k : Nat) (x y z x0 y0 x1 y1 : Int) (B bl bm m : Nat) (v : Value) (L : List (Int × Int)) (w : World) (hk : k + (n + 1) ≤ 26) (hz : z = k + (n + 1 : Nat)) (h : In k x y) (hB : B ≤ w.heap.size) (hB0 : 0 < B) (hs : St w B bl bm m v L) (hw : WideS L) (hl : L.length ≤ m) (hm4 : m ≤ 4096) (hq : QTab w) (hm : ¬ Miss x0 y0 x1 y1 (n + 1) x y) (hh : ¬ Hold x0 y0 x1 y1 (n + 1) x y)
    (ih : ∀ (x y : Int) (v : Value) (L : List (Int × Int)) (w : World), In (k + 1) x y → B ≤ w.heap.size → St w B bl bm m v L → WideS L → L.length ≤ m → QTab w → Calls Tryd.prog 32 #[.agg #[.int .i64 z, .int .i64 x0, .int .i64 y0, .int .i64 x1, .int .i64 y1], .agg #[.int .i64 (k + 1 : Int), .int .i64 x, .int .i64 y], keepF bl bm] w (WithEnd B bl bm m v L (wl x0 y0 x1 y1 n (k + 1) x y) w)) :
    Calls Tryd.prog 32 #[.agg #[.int .i64 z, .int .i64 x0, .int .i64 y0, .int .i64 x1, .int .i64 y1], .agg #[.int .i64 k, .int .i64 x, .int .i64 y], keepF bl bm] w (WithEnd B bl bm m v L (wl x0 y0 x1 y1 (n + 1) k x y) w) := by
  have HFN := Lib.hid (feed_next m L x0 y0 x1 y1 n k x y)
  have HFS := Lib.hid (feed_stop m L x0 y0 x1 y1 n k x y)
  have HPW := Lib.hid (preK_wide x0 y0 x1 y1 n k x y hk h)
  have HKA := Lib.hid (kids_at k x y)
  have HKF := Lib.hid (kid_facts k x y)
  rw [← preK_all x0 y0 x1 y1 n k x y hm hh]
  have h1 := fun w => square_any k (n + 1) x y hk h w
  have h2 := fun w => misses_any z x0 y0 x1 y1 z (x * p2 (n + 1)) (y * p2 (n + 1)) ((x + 1) * p2 (n + 1) - 1) ((y + 1) * p2 (n + 1) - 1) w
  have h3 := fun w => holds_any z x0 y0 x1 y1 z (x * p2 (n + 1)) (y * p2 (n + 1)) ((x + 1) * p2 (n + 1) - 1) ((y + 1) * p2 (n + 1) - 1) w
  have h4 := fun w hq => down_in k x y (by omega) h w hq
  rw [decide_eq_false (show ¬ MissR x0 y0 x1 y1 (x * p2 (n + 1)) (y * p2 (n + 1)) ((x + 1) * p2 (n + 1) - 1) ((y + 1) * p2 (n + 1) - 1) from hm)] at h2
  rw [decide_eq_false (show ¬ HoldR x0 y0 x1 y1 (x * p2 (n + 1)) (y * p2 (n + 1)) ((x + 1) * p2 (n + 1) - 1) ((y + 1) * p2 (n + 1) - 1) from hh)] at h3
  rw [← hz] at h1
  generalize x * p2 (n + 1) = a at *
  generalize y * p2 (n + 1) = b at *
  generalize (x + 1) * p2 (n + 1) - 1 = c at *
  generalize (y + 1) * p2 (n + 1) - 1 = d at *
  have H1 := Lib.hid h1
  have H2 := Lib.hid h2
  have H3 := Lib.hid h3
  have H4 := Lib.hid h4
  have HI := Lib.hid ih
  have HS := Lib.hid hs
  have HQ := Lib.hid hq
  have HW := Lib.hid hw
  clear h1 h2 h3 h4 hs hm hz hq hh ih hw
  unfold keepF at *
  go_enter Tryd.func32, Tryd.ntmps32
  go_wp2_with fail
  refine (H1.out _).mono ?_
  rintro e w1 ⟨rfl, hb⟩
  have hbx := boxes_made (T2 := 26) hb a b c d
  have d0 := (kept53 hb).1
  clear hb
  go_upto_region 2 with fail
  clear d0
  generalize w1.alloc (.cells #[.int .i64 z, .int .i64 a, .int .i64 b, .int .i64 c, .int .i64 d] 26) = W at *
  generalize w1.heap.size = s7 at *
  have HBX := Lib.hid hbx
  obtain ⟨c0, c1, c2, c3, c4, d0, d1, d2, e0, e1, e2, e3, e4, hb0, i1, i2⟩ := hbx
  go_wp2_with fail
  refine (H2.out _).mono ?_
  rintro e w2 ⟨rfl, hb⟩
  replace HBX := Lib.hid (HBX.out.later hb)
  clear c0 c1 c2 c3 c4 d0 d1 d2 e0 e1 e2 e3 e4 hb0 i1 i2 hb
  obtain ⟨c0, c1, c2, c3, c4, d0, d1, d2, e0, e1, e2, e3, e4, hb0, i1, i2⟩ := HBX.out
  go_wp2_with fail
  refine (H3.out _).mono ?_
  rintro e w3 ⟨rfl, hb⟩
  replace HBX := Lib.hid (HBX.out.later hb)
  clear c0 c1 c2 c3 c4 d0 d1 d2 e0 e1 e2 e3 e4 hb0 i1 i2 hb
  obtain ⟨c0, c1, c2, c3, c4, d0, d1, d2, e0, e1, e2, e3, e4, hb0, i1, i2⟩ := HBX.out
  go_wp2_with fail
  refine (H4.out _ (HQ.out.below hb0)).mono ?_
  rintro e w4 ⟨vd, rfl, hown, hb⟩
  replace HBX := Lib.hid (HBX.out.later hb)
  have hw3 := hb0.size
  clear c0 c1 c2 c3 c4 d0 d1 d2 e0 e1 e2 e3 e4 hb0 i1 i2 hb
  obtain ⟨c0, c1, c2, c3, c4, _, _, _, _, _, _, _, _, hb4, i1, i2⟩ := HBX.out
  rcases hown.form with ⟨_, hno⟩ | ⟨g, cap, rfl, hg, hgw, hle, hmx, hc, hf⟩
  · simp at hno
  have hs4 := HS.out.below hb4
  have l0 : Loc w4 v bl w.heap.size := HS.out.loc (Nat.le_refl _) (by omega)
  have lg : Loc w4 v bl g := HS.out.loc (by omega) hgw
  have HC := Lib.hid hc
  have H40 := Lib.hid (And.intro c0 (And.intro c1 (And.intro c2 (And.intro c3 c4))))
  have HL0 := Lib.hid l0
  have HLG := Lib.hid lg
  have HQ4 := Lib.hid (HQ.out.below hb4)
  have HS4 := Lib.hid hs4
  have hB4 : B ≤ w4.heap.size := Nat.le_trans hB hb4.size
  have HF4 := Lib.hid (Fr.of_below (bl := bl) (v := v) hb4 hB)
  rw [show [kidT k x y 0, kidT k x y 1, kidT k x y 2, kidT k x y 3].length = 4 from rfl] at *
  clear c0 c1 c2 c3 c4 hown hc hf hs4 l0 lg hb4 HBX i1 i2 H1 H2 H3 H4 HQ
  go_wp2_with fail
  go_loopw [45] (fun i wr => ∃ j : Nat, j ≤ 4 ∧ i = .int .i64 j ∧ ∃ v', Hid (St wr B bl bm m v' (feed m L (preK x0 y0 x1 y1 n k x y j)).1 ∧ (feed m L (preK x0 y0 x1 y1 n k x y j)).2 = false ∧ Fr B bl v w4 v' wr)) (fun i _ => 4 - (intOf i).toNat)
  case atStart => exact ⟨0, by omega, rfl, v, Lib.hid ⟨HS4.out, rfl, Fr.of_below (Below.refl _ _) hB4⟩⟩
  case round =>
    obtain ⟨j, hj, rfl, v', HR⟩ := hrel
    by_cases hlt : j < 4
    · obtain ⟨hst, hnf, hfr⟩ := HR.out
      have l := flat_at _ j _ (HKA.out j hlt)
      have q0 := hfr.cell HLG.out ((HC.out (j * 3) (by omega)).trans l.1)
      have q1 := hfr.cell HLG.out ((HC.out (j * 3 + 1) (by omega)).trans l.2.1)
      have q2 := hfr.cell HLG.out ((HC.out (j * 3 + 2) (by omega)).trans l.2.2)
      obtain ⟨a0, a1, a2, a3, a4⟩ := H40.out
      have p0 := hfr.cell HL0.out a0
      have p1 := hfr.cell HL0.out a1
      have p2 := hfr.cell HL0.out a2
      have p3 := hfr.cell HL0.out a3
      have p4 := hfr.cell HL0.out a4
      have hlb := (hfr.loc HL0.out).1.lt
      have hlg := (hfr.loc HLG.out).1.lt
      clear a0 a1 a2 a3 a4 l
      have e1 := HFN.out j hnf
      have hin := (HKF.out j h (by omega) (by omega)).1
      have hlen := (feed_len m L (preK x0 y0 x1 y1 n k x y j) hl).2 hnf
      have hwd := feed_wideS m L (preK x0 y0 x1 y1 n k x y j) HW.out (HPW.out j (by omega))
      have hi := fun W b s t => HI.out (kid k x y j).1 (kid k x y j).2 v' (feed m L (preK x0 y0 x1 y1 n k x y j)).1 W hin b s hwd hlen t
      unfold WithEnd at hi
      rw [e1] at hi
      have hs5 : St (wr.alloc (.cells #[.int .i64 (k + 1), .int .i64 (kid k x y j).1, .int .i64 (kid k x y j).2] 32)) B bl bm m v' (feed m L (preK x0 y0 x1 y1 n k x y j)).1 := hst.below ((Below.refl _ _).alloc (Nat.le_refl _) _)
      have hq5 : QTab (wr.alloc (.cells #[.int .i64 (k + 1), .int .i64 (kid k x y j).1, .int .i64 (kid k x y j).2] 32)) := (HQ4.out.low hfr.below hB0).below ((Below.refl _ _).alloc (Nat.le_refl _) _)
      have hf5 : Fr B bl v w4 v' (wr.alloc (.cells #[.int .i64 (k + 1), .int .i64 (kid k x y j).1, .int .i64 (kid k x y j).2] 32)) := hfr.trans (Fr.of_below ((Below.refl _ _).alloc (Nat.le_refl _) _) (Nat.le_trans hB4 hfr.below.size))
      have hb5 : B ≤ (wr.alloc (.cells #[.int .i64 (k + 1), .int .i64 (kid k x y j).1, .int .i64 (kid k x y j).2] 32)).heap.size := Nat.le_trans hB4 hf5.below.size
      have HII := Lib.hid (hi _ hb5 hs5 hq5)
      have HF5 := Lib.hid hf5
      have hj4 : (j : Int) < 4 := by omega
      simp only [kidT] at q0 q1 q2
      clear hst hfr e1 hin hlen hwd hi hs5 hq5 hf5 hb5 HR HI
      generalize (kid k x y j).1 = kx at *
      generalize (kid k x y j).2 = ky at *
      by_cases hr : (feed m L (preK x0 y0 x1 y1 n k x y (j + 1))).2 = true
      · have e4 : feed m L (preK x0 y0 x1 y1 n k x y 4) = feed m L (preK x0 y0 x1 y1 n k x y (j + 1)) := by
          have := HFS.out (j + 1) hr (3 - j)
          rwa [show j + 1 + (3 - j) = 4 from by omega] at this
        rw [hr] at HII
        go_wp2_with fail
        refine HII.out.mono ?_
        rintro e w6 ⟨v6, rfl, hst6, hfr6⟩
        have HST := Lib.hid hst6
        have HFR := Lib.hid (HF4.out.trans (HF5.out.trans hfr6))
        clear hst6 hfr6
        go_wp2_with fail
        go_ret
        unfold WithEnd
        rw [e4, hr]
        exact ⟨_, rfl, HST.out, HFR.out⟩
      · replace hr : (feed m L (preK x0 y0 x1 y1 n k x y (j + 1))).2 = false := by simpa using hr
        rw [hr] at HII
        go_wp2_with fail
        refine HII.out.mono ?_
        rintro e w6 ⟨v6, rfl, hst6, hfr6⟩
        have HST := Lib.hid hst6
        have HFR := Lib.hid (HF5.out.trans hfr6)
        clear hst6 hfr6
        go_wp2_with fail
        go_roundw
        case rel => exact ⟨j + 1, by omega, by go_num, v6, Lib.hid ⟨HST.out, hr, HFR.out⟩⟩
        case measure => simp [intOf]; omega
    · obtain rfl : j = 4 := by omega
      obtain ⟨hst, hnf, hfr⟩ := HR.out
      have HST := Lib.hid hst
      have HFR := Lib.hid (HF4.out.trans hfr)
      clear hst hfr
      go_wp2_with fail
      go_ret
      unfold WithEnd
      rw [hnf]
      exact ⟨_, rfl, HST.out, HFR.out⟩
theorem within_any (n : Nat) (z x0 y0 x1 y1 : Int) (B bl bm m : Nat) (hB0 : 0 < B) (hm4 : m ≤ 4096) (k : Nat) (x y : Int) (v : Value) (L : List (Int × Int)) (w : World) (hk : k + n ≤ 26) (hz : z = k + n) (h : In k x y) (hB : B ≤ w.heap.size) (hs : St w B bl bm m v L) (hw : WideS L) (hl : L.length ≤ m) (hq : QTab w) :
    Calls Tryd.prog 32 #[.agg #[.int .i64 z, .int .i64 x0, .int .i64 y0, .int .i64 x1, .int .i64 y1], .agg #[.int .i64 k, .int .i64 x, .int .i64 y], keepF bl bm] w (WithEnd B bl bm m v L (wl x0 y0 x1 y1 n k x y) w) := by
  induction n generalizing k x y v L w with
  | zero =>
    by_cases hm : Miss x0 y0 x1 y1 0 x y
    · exact within_miss 0 k x y z x0 y0 x1 y1 B bl bm m v L w hk hz h hB hs hm
    · exact within_hold 0 k x y z x0 y0 x1 y1 B bl bm m v L w hk hz h hB hs hw hl hm4 hq hm (one_held _ _ _ _ _ _ hm)
  | succ n ih =>
    by_cases hm : Miss x0 y0 x1 y1 (n + 1) x y
    · exact within_miss (n + 1) k x y z x0 y0 x1 y1 B bl bm m v L w hk hz h hB hs hm
    · by_cases hh : Hold x0 y0 x1 y1 (n + 1) x y
      · exact within_hold (n + 1) k x y z x0 y0 x1 y1 B bl bm m v L w hk hz h hB hs hw hl hm4 hq hm hh
      · exact within_part n k x y z x0 y0 x1 y1 B bl bm m v L w hk hz h hB hB0 hs hw hl hm4 hq hm hh (fun x y v L w a b c d e f => by
          have := ih (k + 1) x y v L w (by omega) (by omega) a b c d e f
          rw [show ((k + 1 : Nat) : Int) = (k : Int) + 1 from by omega] at this
          exact this)
end Go.Proofs.YthlekifagidijaaDoor
