/- The program's begun: how many entries there are; a row for them. -/
import Derived.Test.YtgnghnekckhcdaaCj
namespace Go.Proofs.Ytgnghnekckhcdaa
open Go.RowKit Go.Shelf
set_option linter.unusedVariables false
set_option linter.unusedSimpArgs false
theorem info_pent : (Try.prog.info? 51).map (fun i => (i.zero, i.size, i.bytes)) = some (some (.agg #[.int .u64 0, .int .u64 0, .int .u32 0, .int .u32 0]), 4, 24) := by kernel_rfl
theorem make_row (n : Nat) (W : World) (h : n ≤ 4096) : (Instr.makeSlice 67 (.int .u64 (n : Int)) (.int .u64 (n : Int))).run Try.prog W = .ok (.slice (some ⟨W.heap.size, 0, none⟩) n n) (W.alloc (.cells (madeCells (eC zeroE) (n * 4)) 51)) := by
  obtain ⟨i0, hi, hz0, hz1, hz2⟩ := info_parts info_pent
  have := run_make (P := Try.prog) W 67 51 i0 _ Try.underlying67 hi hz0 .u64 .u64 (n : Int) (n : Int) (by omega) (by omega) (by rw [hz2]; omega) (by omega)
  rw [this, hz1]
  simp only [Int.toNat_natCast]
  rfl
theorem own_row (w : World) (n : Nat) (h : n ≤ 4096) : OwnE (w.alloc (.cells (madeCells (eC zeroE) (n * 4)) 51)) w.heap.size 51 (.slice (some ⟨w.heap.size, 0, none⟩) n n) (zerosE n) := by
  have := World.ownsRow_lit (e := 51) (size := 4) w (madeCells (eC zeroE) (n * 4)) n (Nat.le_refl _) (by unfold maxLen; omega) (size_madeCells _ _)
  exact owne_conv this (by simp [zerosE]) (flat_zeros n).symm
/-- What begun tells: the row's length, the place, what is wrong. -/
def bgD (t : List UInt8) : Nat × Nat × Int := if errV t ≠ 0 then (0, 0, errV t) else if 4096 < valV t then (0, 0, 21) else ((valV t).toNat, lead 10 t + 1, 0)
def BgEnd (t : ByteArray) (D : Nat × Nat × Int) (w : World) (x : Ending) (w' : World) : Prop := ∃ al cap, x = .returned (.agg #[.string t, .int .i64 (D.2.1 : Int), .int .i64 D.2.2, .slice al D.1 cap]) ∧ OwnE w' w.heap.size 51 (.slice al D.1 cap) (zerosE D.1) ∧ Below w.heap.size w w'
set_option maxRecDepth 100000 in
set_option maxHeartbeats 2000000 in
theorem pbegun_3 (t : ByteArray) (n p : Nat) (q : Int) (w : World) (hn : n ≤ 4096) (hget : ∀ W, Calls Try.prog 59 #[.agg #[.string t, .int .i64 0, .int .i64 0]] W (GetEnd t (n : Int) (p : Int) q W)) : Calls Try.prog 28 #[.string t] w (BgEnd t (n, p, q) w) := by
  have HG := Lib.hid hget
  have hmk := fun W => make_row n W hn
  have hd : decide (4096 < (n : Int)) = false := by simp; omega
  have hd2 : decide (4096 < n) = false := by simp; omega
  clear hget
  go_enter Try.func28, Try.ntmps28
  go_wp2_with fail
  refine (HG.out _).mono ?_
  rintro y w1 ⟨rfl, hb⟩
  have hz : w.heap.size + 2 ≤ w1.heap.size := by have := hb.size; simp at this; omega
  have hbw : Below w.heap.size w w1 := Below.trans (by go_grown) (hb.mono (by simp; omega))
  have f0 : ∀ o, w1.frozen? ⟨w.heap.size, o, none⟩ = false := fun o => ((bcell hb).2 _ _ (by simp; omega)).trans (by simp [go_sem])
  have c0 : w1.cell? ⟨w.heap.size, 0, none⟩ = some (.string { data := #[] }) := ((bcell hb).1 _ _ (by simp; omega)).trans (by simp [go_sem])
  have c1 : w1.cell? ⟨w.heap.size, 1, none⟩ = some (.int .i64 0) := ((bcell hb).1 _ _ (by simp; omega)).trans (by simp [go_sem])
  have c2 : w1.cell? ⟨w.heap.size, 2, none⟩ = some (.int .i64 0) := ((bcell hb).1 _ _ (by simp; omega)).trans (by simp [go_sem])
  have c3 : w1.cell? ⟨w.heap.size, 3, none⟩ = some (.slice none 0 0) := ((bcell hb).1 _ _ (by simp; omega)).trans (by simp [go_sem])
  clear hb
  have hW2 : Below w1.heap.size w1 ((w1.alloc (.cells #[.string t, .int .i64 (p : Int), .int .i64 q] 66)).alloc (.cells (madeCells (eC zeroE) (n * 4)) 51)) := ((Below.refl _ _).alloc (Nat.le_refl _) _).alloc (by simp) _
  have hlt : w.heap.size < w1.heap.size := by omega
  have k0 := (hW2.cell (p := ⟨w.heap.size, 0, none⟩) hlt).trans c0
  have k1 := (hW2.cell (p := ⟨w.heap.size, 1, none⟩) hlt).trans c1
  have k2 := (hW2.cell (p := ⟨w.heap.size, 2, none⟩) hlt).trans c2
  have k3 := (hW2.cell (p := ⟨w.heap.size, 3, none⟩) hlt).trans c3
  have kf : ∀ o, ((w1.alloc (.cells #[.string t, .int .i64 (p : Int), .int .i64 q] 66)).alloc (.cells (madeCells (eC zeroE) (n * 4)) 51)).frozen? ⟨w.heap.size, o, none⟩ = false := fun o => (frozen_later hW2 hlt).trans (f0 o)
  have hO := own_row (w1.alloc (.cells #[.string t, .int .i64 (p : Int), .int .i64 q] 66)) n hn
  rw [World.size_alloc] at hO
  have HH := Lib.hid (And.intro (hbw.trans (hW2.mono hbw.size)) (And.intro hO (And.intro hz hlt)))
  clear hbw hW2 hO c0 c1 c2 c3 f0 hz hlt
  go_wp2_with fail
  go_region
  all_goals
    go_wp2
    refine bodyPost_ret (v := .agg #[.string t, .int .i64 (p : Int), .int .i64 q, .slice (some ⟨w1.heap.size + 1, 0, none⟩) n n]) (by simp [results, Try.results28, go_sem, k0, k1, k2, k3]) rfl ⟨_, _, rfl, ?_, ?_⟩
    · obtain ⟨h1, h2, h3, h4⟩ := HH.out
      have hB : (w1.heap.size + 1) ≥ w.heap.size + 1 := by omega
      refine OwnE.mono (B := w.heap.size + 1) ?_ (by omega)
      exact OwnE.setCell (OwnE.setCell (OwnE.setCell (OwnE.setCell (OwnE.mono h2 hB) _ _ (Nat.lt_succ_self _)) _ _ (Nat.lt_succ_self _)) _ _ (Nat.lt_succ_self _)) _ _ (Nat.lt_succ_self _)
    · obtain ⟨h1, h2, h3, h4⟩ := HH.out
      exact (((h1.drew.setCell (p := ⟨w.heap.size, 0, none⟩) (Nat.le_refl _) _).setCell (p := ⟨w.heap.size, 1, none⟩) (Nat.le_refl _) _).setCell (p := ⟨w.heap.size, 2, none⟩) (Nat.le_refl _) _).setCell (p := ⟨w.heap.size, 3, none⟩) (Nat.le_refl _) _
set_option maxRecDepth 100000 in
set_option maxHeartbeats 2000000 in
theorem pbegun_2 (t : ByteArray) (n : Int) (p : Nat) (w : World) (hn : 4096 < n) (hget : ∀ W, Calls Try.prog 59 #[.agg #[.string t, .int .i64 0, .int .i64 0]] W (GetEnd t n (p : Int) 0 W)) : Calls Try.prog 28 #[.string t] w (BgEnd t (0, 0, 21) w) := by
  have HG := Lib.hid hget
  have hd : decide (4096 < n) = true := by simp; omega
  clear hget hn
  go_enter Try.func28, Try.ntmps28
  go_wp2_with fail
  refine (HG.out _).mono ?_
  rintro y w1 ⟨rfl, hb⟩
  have hz : w.heap.size + 2 ≤ w1.heap.size := by have := hb.size; simp at this; omega
  have hbw : Below w.heap.size w w1 := Below.trans (by go_grown) (hb.mono (by simp; omega))
  have f0 : ∀ o, w1.frozen? ⟨w.heap.size, o, none⟩ = false := fun o => ((bcell hb).2 _ _ (by simp; omega)).trans (by simp [go_sem])
  have f1 : ∀ o, w1.frozen? ⟨w.heap.size + 1, o, none⟩ = false := fun o => ((bcell hb).2 _ _ (by simp)).trans (by simp [go_sem])
  have c0 : w1.cell? ⟨w.heap.size, 0, none⟩ = some (.string { data := #[] }) := ((bcell hb).1 _ _ (by simp; omega)).trans (by simp [go_sem])
  have c1 : w1.cell? ⟨w.heap.size, 1, none⟩ = some (.int .i64 0) := ((bcell hb).1 _ _ (by simp; omega)).trans (by simp [go_sem])
  have c2 : w1.cell? ⟨w.heap.size, 2, none⟩ = some (.int .i64 0) := ((bcell hb).1 _ _ (by simp; omega)).trans (by simp [go_sem])
  have c3 : w1.cell? ⟨w.heap.size, 3, none⟩ = some (.slice none 0 0) := ((bcell hb).1 _ _ (by simp; omega)).trans (by simp [go_sem])
  have e0 : w1.cell? ⟨w.heap.size + 1, 0, none⟩ = some (.string t) := ((bcell hb).1 _ _ (by simp)).trans (by simp [go_sem])
  have e1 : w1.cell? ⟨w.heap.size + 1, 1, none⟩ = some (.int .i64 0) := ((bcell hb).1 _ _ (by simp)).trans (by simp [go_sem])
  have e2 : w1.cell? ⟨w.heap.size + 1, 2, none⟩ = some (.int .i64 0) := ((bcell hb).1 _ _ (by simp)).trans (by simp [go_sem])
  clear hb
  have hW2 : Below w1.heap.size w1 (w1.alloc (.cells #[.string t, .int .i64 (p : Int), .int .i64 0] 66)) := (Below.refl _ _).alloc (Nat.le_refl _) _
  have hlt : w.heap.size < w1.heap.size := by omega
  have hlt1 : w.heap.size + 1 < w1.heap.size := by omega
  have k0 := (hW2.cell (p := ⟨w.heap.size, 0, none⟩) hlt).trans c0
  have k1 := (hW2.cell (p := ⟨w.heap.size, 1, none⟩) hlt).trans c1
  have k2 := (hW2.cell (p := ⟨w.heap.size, 2, none⟩) hlt).trans c2
  have k3 := (hW2.cell (p := ⟨w.heap.size, 3, none⟩) hlt).trans c3
  have kf : ∀ o, (w1.alloc (.cells #[.string t, .int .i64 (p : Int), .int .i64 0] 66)).frozen? ⟨w.heap.size, o, none⟩ = false := fun o => (frozen_later hW2 hlt).trans (f0 o)
  have k4 := (hW2.cell (p := ⟨w.heap.size + 1, 0, none⟩) hlt1).trans e0
  have k5 := (hW2.cell (p := ⟨w.heap.size + 1, 1, none⟩) hlt1).trans e1
  have k6 := (hW2.cell (p := ⟨w.heap.size + 1, 2, none⟩) hlt1).trans e2
  have kg : ∀ o, (w1.alloc (.cells #[.string t, .int .i64 (p : Int), .int .i64 0] 66)).frozen? ⟨w.heap.size + 1, o, none⟩ = false := fun o => (frozen_later hW2 hlt1).trans (f1 o)
  have HH := Lib.hid (hbw.trans (hW2.mono hbw.size))
  clear hbw hW2 c0 c1 c2 c3 f0 f1 e0 e1 e2 hz hlt hlt1
  go_wp2_with fail
  refine bodyPost_ret (v := .agg #[.string t, .int .i64 0, .int .i64 21, .slice none 0 0]) (by simp [results, Try.results28, go_sem, k0, k1, k2, k3]) rfl ⟨none, 0, rfl, ownE_nil _ _ _, ?_⟩
  exact ((((HH.out.setCell (p := ⟨w.heap.size + 1, 2, none⟩) (Nat.le_succ _) _).setCell (p := ⟨w.heap.size, 0, none⟩) (Nat.le_refl _) _).setCell (p := ⟨w.heap.size, 1, none⟩) (Nat.le_refl _) _).setCell (p := ⟨w.heap.size, 2, none⟩) (Nat.le_refl _) _).setCell (p := ⟨w.heap.size, 3, none⟩) (Nat.le_refl _) _
theorem pbegun_any (t : ByteArray) (w : World) (hsz : t.size ≤ 65536) : Calls Try.prog 28 #[.string t] w (BgEnd t (bgD t.data.toList) w) := by
  have hmx : t.size ≤ maxLen := by unfold maxLen; omega
  by_cases he : errV t.data.toList = 0
  · have hg := fun W => pgetL_yes t 0 W hmx (Nat.zero_le _) (by rw [List.drop_zero]; exact he)
    rw [List.drop_zero, Nat.zero_add] at hg
    have hb := valV_bd _ he
    by_cases h4 : 4096 < valV t.data.toList
    · have : bgD t.data.toList = (0, 0, 21) := by unfold bgD; rw [if_neg (fun h => h he), if_pos h4]
      rw [this]
      exact pbegun_2 t _ _ w h4 hg
    · have : bgD t.data.toList = ((valV t.data.toList).toNat, lead 10 t.data.toList + 1, 0) := by unfold bgD; rw [if_neg (fun h => h he), if_neg h4]
      rw [this]
      refine pbegun_3 t _ _ _ w (by omega) ?_
      rw [Int.toNat_of_nonneg hb.1]
      exact hg
  · have : bgD t.data.toList = (0, 0, errV t.data.toList) := by unfold bgD; rw [if_pos he]
    rw [this]
    exact pbegun_3 t 0 0 _ w (by omega) (fun W => pgetL_no t 0 _ W hmx (Nat.zero_le _) (by rw [List.drop_zero]) he)
end Go.Proofs.Ytgnghnekckhcdaa
