/- slices.SortFunc over intervals by their beginnings: the library's contract laid over this program, the program's comparison, and what a row of the call's own is behind it. -/
import Derived.Shelf.SlSortCmp.WholeK
import Derived.Shelf.SlSortCmp.NoneTotal
import Derived.Test.YthlekifagidijaaDoorRs
import Derived.Test.YthlekifagidijaaDoorRl
import Derived.Handy
namespace Go.Proofs.YthlekifagidijaaDoor
open Go.RowKit
set_option linter.unusedVariables false
set_option linter.unusedSimpArgs false
def sortS_ren : Go.Shelf.Ren := ⟨fun | 6 => 40 | 15 => 58 | 14 => 57 | 28 => 73 | 29 => 45 | 20 => 65 | 21 => 66 | 22 => 67 | 23 => 68 | 24 => 69 | 25 => 70 | 26 => 71 | 27 => 72 | 46 => 75 | 47 => 76 | 48 => 77 | 49 => 78 | 50 => 79 | 57 => 81 | n => n, fun | 22 => 35 | 24 => 54 | 25 => 74 | 3 => 3 | 39 => 92 | 0 => 0 | 53 => 112 | 55 => 44 | 4 => 4 | 46 => 105 | 45 => 104 | 50 => 109 | 5 => 5 | 9 => 9 | 66 => 115 | 70 => 119 | 76 => 121 | 77 => 95 | n => n, fun | n => n⟩
theorem sortS : Go.Proofs.SlLaysF0.n6 Tryd.prog sortS_ren := {
  mixed := by kernel_rfl,
  f6 := ⟨Tryd.f40.name, by decide, Tryd.func40.trans (congrArg some (by kernel_rfl))⟩,
  f14 := ⟨Tryd.f57.name, by decide, Tryd.func57.trans (congrArg some (by kernel_rfl))⟩,
  f15 := Tryd.func58.trans (congrArg some (by kernel_rfl)),
  f20 := ⟨Tryd.f65.name, by decide, Tryd.func65.trans (congrArg some (by kernel_rfl))⟩,
  f21 := ⟨Tryd.f66.name, by decide, Tryd.func66.trans (congrArg some (by kernel_rfl))⟩,
  f22 := ⟨Tryd.f67.name, by decide, Tryd.func67.trans (congrArg some (by kernel_rfl))⟩,
  f23 := ⟨Tryd.f68.name, by decide, Tryd.func68.trans (congrArg some (by kernel_rfl))⟩,
  f24 := ⟨Tryd.f69.name, by decide, Tryd.func69.trans (congrArg some (by kernel_rfl))⟩,
  f25 := ⟨Tryd.f70.name, by decide, Tryd.func70.trans (congrArg some (by kernel_rfl))⟩,
  f26 := ⟨Tryd.f71.name, by decide, Tryd.func71.trans (congrArg some (by kernel_rfl))⟩,
  f27 := ⟨Tryd.f72.name, by decide, Tryd.func72.trans (congrArg some (by kernel_rfl))⟩,
  f28 := Tryd.func73.trans (congrArg some (by kernel_rfl)),
  f29 := Tryd.func45.trans (congrArg some (by kernel_rfl)),
  f46 := ⟨Tryd.f75.name, by decide, Tryd.func75.trans (congrArg some (by kernel_rfl))⟩,
  f47 := Tryd.func76.trans (congrArg some (by kernel_rfl)),
  f48 := Tryd.func77.trans (congrArg some (by kernel_rfl)),
  f49 := ⟨Tryd.f78.name, by decide, Tryd.func78.trans (congrArg some (by kernel_rfl))⟩,
  f50 := ⟨Tryd.f79.name, by decide, Tryd.func79.trans (congrArg some (by kernel_rfl))⟩,
  f57 := ⟨Tryd.f81.name, by decide, Tryd.func81.trans (congrArg some (by kernel_rfl))⟩,
  t0 := Tryd.underlying0,
  a0 := Tryd.isAgg0,
  z0 := Tryd.sizeOf0,
  v0 := Tryd.zeroValue0,
  t3 := Tryd.underlying3,
  a3 := Tryd.isAgg3,
  z3 := Tryd.sizeOf3,
  v3 := Tryd.zeroValue3,
  t4 := Tryd.underlying4,
  a4 := Tryd.isAgg4,
  z4 := Tryd.sizeOf4,
  v4 := Tryd.zeroValue4,
  t5 := Tryd.underlying5,
  a5 := Tryd.isAgg5,
  z5 := Tryd.sizeOf5,
  v5 := Tryd.zeroValue5,
  t9 := Tryd.underlying9,
  a9 := Tryd.isAgg9,
  z9 := Tryd.sizeOf9,
  v9 := Tryd.zeroValue9,
  t22 := Tryd.underlying35,
  a22 := Tryd.isAgg35,
  z22 := Tryd.sizeOf35,
  v22 := Tryd.zeroValue35,
  t25 := Tryd.underlying74,
  a25 := Tryd.isAgg74,
  z25 := Tryd.sizeOf74,
  v25 := Tryd.zeroValue74,
  t39 := Tryd.underlying92,
  a39 := Tryd.isAgg92,
  z39 := Tryd.sizeOf92,
  v39 := Tryd.zeroValue92,
  t45 := Tryd.underlying104,
  a45 := Tryd.isAgg104,
  z45 := Tryd.sizeOf104,
  v45 := Tryd.zeroValue104,
  t46 := Tryd.underlying105,
  a46 := Tryd.isAgg105,
  z46 := Tryd.sizeOf105,
  v46 := Tryd.zeroValue105,
  t50 := Tryd.underlying109,
  a50 := Tryd.isAgg109,
  z50 := Tryd.sizeOf109,
  v50 := Tryd.zeroValue109,
  t53 := Tryd.underlying112,
  a53 := Tryd.isAgg112,
  z53 := Tryd.sizeOf112,
  v53 := Tryd.zeroValue112,
  t55 := Tryd.underlying44,
  a55 := Tryd.isAgg44,
  z55 := Tryd.sizeOf44,
  v55 := Tryd.zeroValue44,
  t66 := Tryd.underlying115,
  a66 := Tryd.isAgg115,
  z66 := Tryd.sizeOf115,
  v66 := Tryd.zeroValue115,
  t70 := Tryd.underlying119,
  a70 := Tryd.isAgg119,
  z70 := Tryd.sizeOf119,
  v70 := Tryd.zeroValue119,
  t76 := Tryd.underlying121,
  a76 := Tryd.isAgg121,
  z76 := Tryd.sizeOf121,
  v76 := Tryd.zeroValue121,
  t77 := Tryd.underlying95,
  a77 := Tryd.isAgg95,
  z77 := Tryd.sizeOf95,
  v77 := Tryd.zeroValue95 }

/-- An interval's two cells. -/
def encS (x : Int × Int) : List Value := [.int .u64 x.1, .int .u64 x.2]
def cmpI (a b : Int) : Int := if a < b then -1 else if b < a then 1 else 0
def cmpS (x y : Int × Int) : Int := cmpI x.1 y.1
theorem isnan_any (a : Int) (w : World) : Calls Tryd.prog 59 #[.int .u64 a] w fun e w' => e = .returned (.bool false) ∧ w = w' := by
  go_enter Tryd.func59, Tryd.ntmps59
  go_wp2
  go_ret
  exact ⟨by simp, rfl⟩
theorem compare_any (a b : Int) (w : World) : Calls Tryd.prog 42 #[.int .u64 a, .int .u64 b] w fun e w' => e = .returned (.int .i64 (cmpI a b)) ∧ w = w' := by
  have H := Lib.hid (fun a => isnan_any a w)
  unfold cmpI
  by_cases g : a < b
  · rw [if_pos g]
    go_enter Tryd.func42, Tryd.ntmps42
    go_wp2_with fail
    refine (H.out _).mono ?_
    rintro e w' ⟨rfl, rfl⟩
    go_wp2_with fail
    refine (H.out _).mono ?_
    rintro e w' ⟨rfl, rfl⟩
    go_wp2_with fail
    go_ret
    exact ⟨rfl, rfl⟩
  · rw [if_neg g]
    by_cases g2 : b < a
    · rw [if_pos g2]
      go_enter Tryd.func42, Tryd.ntmps42
      go_wp2_with fail
      refine (H.out _).mono ?_
      rintro e w' ⟨rfl, rfl⟩
      go_wp2_with fail
      refine (H.out _).mono ?_
      rintro e w' ⟨rfl, rfl⟩
      go_wp2_with fail
      go_ret
      exact ⟨rfl, rfl⟩
    · rw [if_neg g2]
      go_enter Tryd.func42, Tryd.ntmps42
      go_wp2_with fail
      refine (H.out _).mono ?_
      rintro e w' ⟨rfl, rfl⟩
      go_wp2_with fail
      refine (H.out _).mono ?_
      rintro e w' ⟨rfl, rfl⟩
      go_wp2_with fail
      go_ret
      exact ⟨rfl, rfl⟩
theorem cmp_any (x y : Int × Int) (W : World) : Calls Tryd.prog 41 #[.agg #[.int .u64 x.1, .int .u64 x.2], .agg #[.int .u64 y.1, .int .u64 y.2]] W fun e w' => e = .returned (.int .i64 (cmpS x y)) ∧ ∃ q os', w' = Go.Sort.grow (W.drewN q) os' := by
  obtain ⟨a, b⟩ := x
  obtain ⟨c, d⟩ := y
  have H := Lib.hid (fun w => compare_any a c w)
  unfold cmpS
  dsimp only
  generalize cmpI a c = r at *
  go_enter Tryd.func41, Tryd.ntmps41
  go_wp2_with fail
  refine (H.out _).mono ?_
  rintro e w' ⟨rfl, rfl⟩
  go_wp2_with fail
  go_ret
  exact ⟨rfl, 0, _, by rw [Go.Sort.alloc_eq_grow, Go.Sort.alloc_eq_grow, Go.Sort.grow_grow]; rfl⟩
theorem ltS (x y : Int × Int) : ltOf cmpS x y = decide (x.1 < y.1) := by
  unfold ltOf cmpS cmpI
  by_cases h1 : x.1 < y.1
  · simp [h1]
  · by_cases h2 : y.1 < x.1 <;> simp [h1, h2]
theorem swoS : Go.Sort.SWO (ltOf cmpS) where
  irrefl x := by rw [ltS]; simp
  trans x y z h1 h2 := by rw [ltS] at *; simp at *; omega
  ntrans x y z h1 h2 := by rw [ltS] at *; simp at *; omega

theorem flatK_at (l : List (Int × Int)) (j : Nat) (h : j < l.length * 2) : (flat2 l)[j]? = some ((Go.Sort.flatK encS 2 l.toArray)[j]!) := by
  rw [Go.Sort.get_flatK encS 2 l.toArray j (by simpa using h)]
  obtain ⟨t, ht⟩ : ∃ t, l[j / 2]? = some t := ⟨_, List.getElem?_eq_getElem (by omega)⟩
  obtain ⟨f0, f1⟩ := flat2_at l (j / 2) t ht
  have e : l.toArray[j / 2]! = t := by
    rw [getElem!_def]
    simp [ht]
  rw [e]
  rcases (by omega : j % 2 = 0 ∨ j % 2 = 1) with g | g
  · rw [g, show j = j / 2 * 2 from by omega, f0]; rfl
  · rw [g, show j = j / 2 * 2 + 1 from by omega, f1]; rfl
theorem below_sort {B : Nat} {w : World} {g n : Nat} {d : Array (Int × Int)} {os : Array Obj} (hg : B ≤ g) (hB : B ≤ w.heap.size) : Below B w (Go.Proofs.sortWorldK encS 2 w g 0 n d os) := by
  refine ⟨rfl, rfl, rfl, ?_, fun k hk => ?_⟩
  · exact Go.Proofs.size_sortWorldK_c encS 2 w g 0 n d os
  · unfold sortWorldK
    rw [Go.Sort.heap_grow_old _ _ (by simp [Go.Sort.putRowK, Go.Sort.putRow, Go.Sort.mapBlock, Go.Sort.ahead]; omega)]
    simp [Go.Sort.putRowK, Go.Sort.putRow, Go.Sort.mapBlock, Go.Sort.ahead, Array.getElem?_modify, show g ≠ k by omega]
theorem perm_of (l : List (Int × Int)) (d' : Array (Int × Int)) (h : Go.Sort.PermIn 0 l.toArray.size l.toArray d') : d'.toList.Perm l ∧ d'.size = l.length := by
  obtain ⟨hs, _, hp⟩ := h
  rw [Array.extract_eq_self_of_le (by omega), Array.extract_eq_self_of_le (by omega)] at hp
  exact ⟨hp, by rw [hs]; simp⟩
theorem rising_of (n : Nat) (d' : Array (Int × Int)) (hn : d'.size = n) (h : Go.Sort.SortedIn (ltOf cmpS) 0 n d') : d'.toList.Pairwise (fun a b => a.1 ≤ b.1) := by
  rw [List.pairwise_iff_getElem]
  intro i j hi hj hij
  have hi' : i < d'.size := by simpa using hi
  have hj' : j < d'.size := by simpa using hj
  have := h i j (Nat.zero_le _) hij (by omega)
  rw [ltS, getElem!_pos d' i hi', getElem!_pos d' j hj'] at this
  simp only [decide_eq_false_iff_not] at this
  simp only [Array.getElem_toList]
  omega
/-- What SortFunc leaves. -/
def SortEnd (B : Nat) (v : Value) (l : List (Int × Int)) (w : World) (e : Ending) (w' : World) : Prop := e = .returned (.tuple #[]) ∧ ∃ l' : List (Int × Int), l'.Perm l ∧ l'.Pairwise (fun a b => a.1 ≤ b.1) ∧ SpansAt w' v l' ∧ Below B w w'
theorem sort_any (B : Nat) (v : Value) (l : List (Int × Int)) (w : World) (hown : OwnS w B 54 v l) (hl : l.length ≤ 100000) (hB : B ≤ w.heap.size) : Calls Tryd.prog 40 #[v, .func (.func 41) #[] #[]] w (SortEnd B v l w) := by
  have hnone := fun p cap fv w => AnyF.slices_SortFunc_none sortS p cap fv w
  change ∀ p cap fv w, Calls Tryd.prog 40 _ _ _ at hnone
  rcases hown.form with ⟨rfl, rfl⟩ | ⟨g, cap, rfl, hg, hgw, hle, hm, hc, hf⟩
  · refine (hnone none 0 _ w).mono ?_
    rintro e w' ⟨rfl, rfl⟩
    exact ⟨rfl, [], List.Perm.refl _, List.Pairwise.nil, spans_nil _, Below.refl _ _⟩
  · by_cases h0 : l.length = 0
    · have hl0 := List.eq_nil_of_length_eq_zero h0
      subst hl0
      refine (hnone (some ⟨g, 0, none⟩) cap _ w).mono ?_
      rintro e w' ⟨rfl, rfl⟩
      exact ⟨rfl, [], List.Perm.refl _, List.Pairwise.nil, ⟨_, cap, rfl, by simp, hm, fun k t h => by simp at h⟩, Below.refl _ _⟩
    · have eg : ∀ args w, (callFunc 41 args).run Tryd.prog w = .ok (.enter 41 args) w := enters_of Tryd.func41 (by kernel_rfl) rfl
      have hH : Go.Sort.HoldsK encS 2 w g 0 l.toArray := by
        intro j hj
        rw [Go.Sort.size_flatK] at hj
        have hj2 : j < l.length * 2 := by simpa using hj
        refine ⟨?_, hf _⟩
        rw [Nat.zero_add, hc j hj2]
        exact flatK_at l j hj2
      have hsz : l.toArray.size = l.length := by simp
      have hcon := AnyQ.slices_SortFunc sortS 2 Tryd.isAgg54 Tryd.sizeOf54 encS (fun _ => rfl) (fun x v hv => by simp only [encS, List.mem_cons, List.not_mem_nil, or_false] at hv; rcases hv with rfl | rfl <;> rfl) cmpS swoS 41 #[] g 0 cap l.toArray w eg (fun m os dk hs x y => cmp_any x y _) hH hgw (by omega)
      change Calls Tryd.prog 40 _ _ _ at hcon
      rw [hsz] at hcon
      refine hcon.mono ?_
      rintro e w' ⟨rfl, d', n, os, hp, hs, rfl⟩
      obtain ⟨p1, p2⟩ := perm_of l d' (by rw [hsz]; exact hp)
      have hH2 := holdsK_sortWorldK_c encS 2 w g 0 l.toArray d' n os hH hgw (by omega)
      refine ⟨rfl, d'.toList, p1, rising_of _ _ p2 hs, ?_, below_sort hg hB⟩
      have hlen : d'.toList.length = l.length := by simpa using p2
      refine ⟨_, cap, by rw [hlen], by omega, hm, fun k t ht => ⟨g, 0, rfl, Nat.lt_of_lt_of_le hgw (size_sortWorldK_c encS 2 w g 0 n d' os), ?_⟩⟩
      have hk : k < d'.toList.length := (List.getElem?_eq_some_iff.1 ht).1
      have hk2 : k < d'.size := by simpa using hk
      have a0 := (hH2 (k * 2) (by rw [Go.Sort.size_flatK]; omega)).1
      have a1 := (hH2 (k * 2 + 1) (by rw [Go.Sort.size_flatK]; omega)).1
      have b0 := flatK_at d'.toList (k * 2) (by omega)
      have b1 := flatK_at d'.toList (k * 2 + 1) (by omega)
      obtain ⟨f0, f1⟩ := flat2_at d'.toList k t ht
      rw [f0, Option.some.injEq] at b0
      rw [f1, Option.some.injEq] at b1
      rw [Array.toArray_toList] at b0 b1
      exact ⟨a0.trans (congrArg some b0.symm), by rw [Nat.add_assoc]; exact a1.trans (congrArg some b1.symm)⟩
end Go.Proofs.YthlekifagidijaaDoor
