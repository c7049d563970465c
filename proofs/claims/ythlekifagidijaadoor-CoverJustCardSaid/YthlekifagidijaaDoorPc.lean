/- Contracts of slices.Grow at no row, and of slices.Concat of two lists of intervals. -/
import Derived.Test.YthlekifagidijaaDoorPj
import Derived.Lib.AppendZerosOnto
import Derived.Lib.AppendZeros
namespace Go.Proofs.YthlekifagidijaaDoor
open Go.RowKit
set_option linter.unusedVariables false
set_option linter.unusedSimpArgs false
theorem append_none (W : World) (B : Nat) (v : Value) (L : List (Int × Int)) (cap : Nat) (ty : TypeId) (hown : OwnS W B 54 v L) : (Builtin.append_ #[35, 35] ty #[v, .slice none 0 cap]).run Tryd.prog W = .ok v W := by
  obtain ⟨i0, hi, hz0, hz1, hz2⟩ := info_parts Tryd.infoS54
  have ht := Tryd.underlying35
  rcases hown.2 with ⟨rfl, hn⟩ | ⟨g, cap2, cur, rfl, hbg, hg, hnc, hcm, hcs, htake⟩
  · simp [Builtin.append_, run_underlying ht, sizeOf, typeInfo, hi, Builtin.lenOf, Builtin.firstCells, loadCells, loadCellsFrom]
  · simp [Builtin.append_, run_underlying ht, sizeOf, typeInfo, hi, Builtin.lenOf, Builtin.firstCells, loadCells, loadCellsFrom, hnc, storeCells]
set_option maxRecDepth 20000 in
/-- An append of a list of intervals, run. -/
theorem append_all (W : World) (B : Nat) (v x : Value) (L l : List (Int × Int)) (hown : OwnS W B 54 v L) (hx : SpansAt W x l) (hl : L.length + l.length ≤ 200000) (hb : B ≤ W.heap.size) (ty : TypeId) :
    ∃ v' w', (Builtin.append_ #[35, 35] ty #[v, x]).run Tryd.prog W = .ok v' w' ∧ OwnS w' B 54 v' (L ++ l) ∧ W.grownBy w' v.ownBlock := by
  obtain ⟨i0, hi, hz0, hz1, hz2⟩ := info_parts Tryd.infoS54
  obtain ⟨a, cap, rfl, h1, h2, hc⟩ := hx
  cases a with
  | none =>
    have hl0 : l = [] := by
      cases l with
      | nil => rfl
      | cons t l => obtain ⟨g, off, ha, _⟩ := hc 0 t rfl; cases ha
    subst hl0
    exact ⟨v, W, append_none W B v L cap ty hown, by rw [List.append_nil]; exact hown, World.grownBy.refl _ _⟩
  | some ad =>
    have hnews : ∀ j u, (flat2 l)[j]? = some u → W.cell? (ad.add j) = some u := by
      intro j u hu
      have hj : j < l.length * 2 := by rw [← flat2_len]; exact (List.getElem?_eq_some_iff.1 hu).1
      obtain ⟨t, ht⟩ : ∃ t, l[j / 2]? = some t := ⟨_, List.getElem?_eq_getElem (by omega)⟩
      obtain ⟨g, off, ha, _, c0, c1⟩ := hc (j / 2) t ht
      obtain ⟨f0, f1⟩ := flat2_at l (j / 2) t ht
      injection ha with ha
      subst ha
      have hadd : (⟨g, off, none⟩ : Addr).add j = ⟨g, off + j, none⟩ := by simp [Addr.add]
      rw [hadd]
      rcases (by omega : j = j / 2 * 2 ∨ j = j / 2 * 2 + 1) with e | e
      · rw [e, f0] at hu; rw [← hu]; rw [show off + j = off + j / 2 * 2 from by omega]; exact c0
      · rw [e, f1] at hu; rw [← hu]; rw [show off + j = off + j / 2 * 2 + 1 from by omega]; exact c1
    obtain ⟨v', w', hr, h2, h3, h4⟩ := run_append_own (P := Tryd.prog) W B 35 ty 54 i0 _ 2 16 Tryd.underlying35 hi hz0 hz1 hz2 rfl (by omega) v L.length (flat2 L) hown ad l.length cap (flat2 l) (flat2_len l) hnews (flat2_one l) (by unfold maxLen; omega) (by omega) hb
    exact ⟨v', w', hr, owns_conv h2 (by simp) (by rw [flat2_append]), h3⟩
def GrowEnd (w : World) (e : Ending) (w' : World) : Prop := ∃ v, e = .returned v ∧ OwnS w' w.heap.size 54 v [] ∧ Below w.heap.size w w'
set_option maxHeartbeats 1000000 in
set_option maxRecDepth 20000 in
theorem grow_any (n : Nat) (hn : n ≤ 200000) (w : World) : Calls Tryd.prog 56 #[.slice none 0 0, .int .i64 n] w (GrowEnd w) := by
  by_cases h0 : n = 0
  · subst h0
    go_enter Tryd.func56, Tryd.ntmps56
    go_wp2_with fail
    go_ret
    exact ⟨_, rfl, ownS_nil _ _ _, Below.refl _ _⟩
  · obtain ⟨i0, hi, hz0, hz1, hz2⟩ := info_parts Tryd.infoS54
    have hr := fun ty => Go.Lib.run_append_grow_zeros (P := Tryd.prog) w 35 3 ty 54 i0 _ .i64 .i64 Tryd.underlying35 Tryd.underlying3 hi hz0 none 0 0 [] (by simp [Builtin.firstCells]) n (by omega) (by omega) (by omega) (by omega) (by rw [hz2]; omega) (growslice_fits (by omega) (by rw [hz2]; omega))
    have hge := grownCap_ge w (0 + n) 0 54
    have hle := grownCap_le_maxLen w (0 + n) 0 54 (by unfold maxLen; omega)
    generalize grownCap w (0 + n) 0 54 = G at *
    rw [Nat.zero_add] at hge hr
    have hown : OwnS ((w.alloc (.cells (Builtin.zeroCells #[.int .u64 0, .int .u64 0] n ++ Builtin.zeroCells #[.int .u64 0, .int .u64 0] (G - n)) 54)).drew) w.heap.size 54 (.slice (some ⟨w.heap.size, 0, none⟩) 0 G) [] := by
      refine ⟨rfl, .inr ⟨w.heap.size, G, _, rfl, Nat.le_refl _, heap_alloc_new w _, Nat.zero_le _, hle, ?_, ?_⟩⟩
      · simp only [Array.size_append, size_zeroCells]
        show n * 2 + (G - n) * 2 = G * 2
        omega
      · simp; rfl
    have HO := Lib.hid hown
    clear hown
    have hpos : (0 : Int) < n := by omega
    go_enter Tryd.func56, Tryd.ntmps56
    go_wp2_with (first | (at_builtin; refine Lib.wpList_append_run _ rfl _ _ _ _ rfl _ _ rfl rfl _ _ (hr _) ?_) | fail)
    go_ret
    exact ⟨_, rfl, HO.out, by go_grown⟩
/-- The first j of two. -/
def two (j : Nat) (a c : List (Int × Int)) : List (Int × Int) := (if 0 < j then a else []) ++ (if 1 < j then c else [])
def pick2 {α : Type} (j : Nat) (x y : α) : α := if j = 0 then x else y
theorem two_next (j : Nat) (hj : j < 2) (a c : List (Int × Int)) : two (j + 1) a c = two j a c ++ pick2 j a c := by
  rcases (by omega : j = 0 ∨ j = 1) with rfl | rfl <;> simp [two, pick2]
theorem two_len (j : Nat) (a c : List (Int × Int)) : (two j a c).length ≤ a.length + c.length := by
  unfold two
  rw [List.length_append]
  split <;> split <;> simp
def OwnEnd (l : List (Int × Int)) (w : World) (e : Ending) (w' : World) : Prop := ∃ v, e = .returned v ∧ OwnS w' w.heap.size 54 v l ∧ Below w.heap.size w w'
set_option maxHeartbeats 2000000 in
set_option maxRecDepth 20000 in
theorem concat_any (v1 v2 : Value) (a c : List (Int × Int)) (b : Nat) (w : World) (h1 : SpansAt w v1 a) (h2 : SpansAt w v2 c) (hl : a.length + c.length ≤ 200000) (hb : b < w.heap.size) (c1 : w.cell? ⟨b, 0, none⟩ = some v1) (c2 : w.cell? ⟨b, 1, none⟩ = some v2) :
    Calls Tryd.prog 38 #[.slice (some ⟨b, 0, none⟩) 2 2] w (OwnEnd (a ++ c) w) := by
  have HG := Lib.hid (fun n hn w => grow_any n hn w)
  have hcell : ∀ (j : Nat) (W : World), j < 2 → Below w.heap.size w W → W.cell? ⟨b, j, none⟩ = some (pick2 j v1 v2) ∧ SpansAt W (pick2 j v1 v2) (pick2 j a c) := by
    intro j W hj hW
    rcases (by omega : j = 0 ∨ j = 1) with rfl | rfl
    · exact ⟨scell_later hW c1, h1.below hW⟩
    · exact ⟨scell_later hW c2, h2.below hW⟩
  have HC := Lib.hid hcell
  have hsum : ∀ j, j < 2 → (two (j + 1) a c).length = (two j a c).length + (pick2 j a c).length := fun j hj => by rw [two_next j hj, List.length_append]
  have HS := Lib.hid hsum
  have HT := Lib.hid (fun j => two_len j a c)
  have HN := Lib.hid (fun j hj => two_next j hj a c)
  clear hcell h1 h2 c1 c2 hsum
  go_enter Tryd.func38, Tryd.ntmps38
  go_wp2_with fail
  go_loopw [3, 11] (fun n s wr => ∃ j : Nat, j ≤ 2 ∧ s = .int .i64 j ∧ n = .int .i64 ((two j a c).length : Nat) ∧ Below w.heap.size w wr) (fun _ s _ => 2 - (intOf s).toNat)
  case atStart => exact ⟨0, by omega, rfl, rfl, Below.refl _ _⟩
  case round =>
    obtain ⟨j, hj, rfl, rfl, hbw⟩ := hrel
    have hlen := HT.out j
    by_cases hlt : j < 2
    · obtain ⟨q1, al, cap, hv, hle, hmx, _⟩ := HC.out j wr hlt hbw
      rw [hv] at q1
      have hs := HS.out j hlt
      have hlen2 := HT.out (j + 1)
      have hj2 : (j : Int) < 2 := by omega
      go_wp2_with fail
      go_roundw
      case rel => exact ⟨j + 1, by omega, by go_num, by rw [hs]; go_num, hbw⟩
      case measure => simp [intOf]; omega
    · obtain rfl : j = 2 := by omega
      go_wp2_with fail
      refine (HG.out (two 2 a c).length (by omega) _).mono ?_
      rintro e w1 ⟨v3, rfl, ho3, hb3⟩
      have hbw3 := hbw.trans (hb3.mono hbw.size)
      have HO3 := Lib.hid (ho3.mono hbw.size)
      clear hb3 hbw ho3 HG
      go_wp2_with fail
      go_loopw [6, 27] (fun o s wx => ∃ j : Nat, j ≤ 2 ∧ s = .int .i64 j ∧ Hid (OwnS wx w.heap.size 54 o (two j a c)) ∧ Below w.heap.size w wx) (fun _ s _ => 2 - (intOf s).toNat)
      case atStart => exact ⟨0, by omega, rfl, HO3, hbw3⟩
      case round =>
        clear HO3 hbw3
        obtain ⟨j, hj, rfl, HO, hbw⟩ := hrel
        by_cases hlt : j < 2
        · obtain ⟨q1, q2⟩ := HC.out j _ hlt hbw
          have hlen2 := HT.out (j + 1)
          rw [HS.out j hlt] at hlen2
          obtain ⟨v5, w5, hr, ho5, hg5⟩ := append_all _ w.heap.size u6 (pick2 j v1 v2) (two j a c) (pick2 j a c) HO.out q2 (by omega) hbw.size 35
          rw [← HN.out j hlt] at ho5
          have HO5 := Lib.hid ho5
          have hbw5 := hbw.grown hg5 hbw.size (fun k hk => (HO.out.lt k hk).1)
          obtain ⟨al, cap, hv, hle, hmx, _⟩ := q2
          rw [hv] at q1 hr
          have hj2 : (j : Int) < 2 := by omega
          clear ho5 hg5 hv
          go_wp2_with (first | (at_builtin; refine Lib.wpList_append_run _ rfl _ _ _ _ rfl _ _ rfl rfl _ _ hr ?_) | fail)
          go_roundw
          case rel => exact ⟨j + 1, by omega, by go_num, HO5, hbw5⟩
          case measure => simp [intOf]; omega
        · obtain rfl : j = 2 := by omega
          go_wp2_with fail
          go_ret
          exact ⟨_, rfl, HO.out, hbw⟩
end Go.Proofs.YthlekifagidijaaDoor
