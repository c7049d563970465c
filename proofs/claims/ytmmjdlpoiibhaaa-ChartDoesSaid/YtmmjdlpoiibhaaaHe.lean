/- Rows of items: an append to a row that has no room, slices.Grow at no row, slices.Concat of two rows, slices.Clone. -/
import Derived.Test.YtmmjdlpoiibhaaaHd
import Derived.Lib.AppendZerosOnto
import Derived.Lib.AppendZeros
import Derived.Deep.AppendSrc
namespace Go.Proofs.Ytmmjdlpoiibhaaa
open Go.RowKit
set_option maxRecDepth 20000
set_option linter.unusedVariables false
set_option linter.unusedSimpArgs false
/-- The cells of a row of items. -/
theorem its_cells {W : World} {ad : Addr} {n cap : Nat} {l : List It} (h : ItsAt W (.slice (some ad) n cap) l) : ∀ j u, (flatI l)[j]? = some u → W.cell? (ad.add j) = some u := by
  obtain ⟨a, cap', he, h1, h2, hc⟩ := h
  cases he
  intro j u hu
  have hj : j < l.length * 2 := by rw [← flatI_len]; exact (List.getElem?_eq_some_iff.1 hu).1
  obtain ⟨t, ht⟩ : ∃ t, l[j / 2]? = some t := ⟨_, List.getElem?_eq_getElem (by omega)⟩
  obtain ⟨g, off, ha, _, c0, c1⟩ := hc (j / 2) t ht
  obtain ⟨f0, f1⟩ := flatI_at l (j / 2) t ht
  injection ha with ha
  subst ha
  have hadd : (⟨g, off, none⟩ : Addr).add j = ⟨g, off + j, none⟩ := by simp [Addr.add]
  rw [hadd]
  rcases (by omega : j = j / 2 * 2 ∨ j = j / 2 * 2 + 1) with e | e
  · rw [e, f0] at hu; rw [← hu]; rw [show off + j = off + j / 2 * 2 from by omega]; exact c0
  · rw [e, f1] at hu; rw [← hu]; rw [show off + j = off + j / 2 * 2 + 1 from by omega]; exact c1
theorem its_first {W : World} {a : Option Addr} {n cap : Nat} {l : List It} (h : ItsAt W (.slice a n cap) l) (W' : World) (hW : ∀ p, W'.cell? p = W.cell? p) : (Builtin.firstCells 2 n (.slice a n cap)).run Try.prog W' = .ok (flatI l).toArray W' := by
  have h' := h
  obtain ⟨a', cap', he, h1, h2, hc⟩ := h'
  cases he
  cases a with
  | none =>
    have hl0 : l = [] := by
      cases l with
      | nil => rfl
      | cons t l => obtain ⟨g, off, ha, _⟩ := hc 0 t rfl; cases ha
    subst hl0
    exact run_firstCells_none W' 2 0 0 cap
  | some ad => exact run_firstCells_some W' 2 l.length ad l.length cap (flatI l) (flatI_len l) (fun j u hu => (hW _).trans (its_cells h j u hu))
theorem its_src {W : World} {a : Option Addr} {n cap : Nat} {l : List It} {TS E : TypeId} (hk : Try.prog.underlying TS = some (.slice E)) (h : ItsAt W (.slice a n cap) l) : Src Try.prog 2 TS (.slice a n cap) l.length (flatI l) W := by
  have h' := h
  obtain ⟨a', cap', he, h1, h2, hc⟩ := h'
  cases he
  cases a with
  | none =>
    have hl0 : l = [] := by
      cases l with
      | nil => rfl
      | cons t l => obtain ⟨g, off, ha, _⟩ := hc 0 t rfl; cases ha
    subst hl0
    exact Src.ofNil W hk cap
  | some ad => exact Src.ofSlice W hk ad l.length cap (flatI l) (flatI_len l) (its_cells h) (flatI_one l)
/-- An append to a row that has no room: a row of one's own. -/
theorem itgrow_run (W : World) (ty : TypeId) (a : Option Addr) (n cap : Nat) (x : Value) (L m : List It) (hv : ItsAt W (.slice a n cap) L) (hx : ItsAt W x m) (hg : cap < L.length + m.length) (hl : L.length + m.length ≤ 1000000) :
    ∃ v' w', (Builtin.append_ #[24, 24] ty #[.slice a n cap, x]).run Try.prog W = .ok v' w' ∧ OwnIt w' W.heap.size 52 v' (L ++ m) ∧ Below W.heap.size W w' := by
  obtain ⟨i0, hi, hz0, hz1, hz2⟩ := info_parts infoPit
  have hx' := hx
  obtain ⟨ax, cx, rfl, _⟩ := hx'
  have hn : n = L.length := by obtain ⟨_, _, e, _⟩ := hv; cases e; rfl
  subst hn
  have hsrc := its_src Try.underlying24 hx
  have hold := its_first hv W.drew (fun p => by simp)
  have hr := run_append_grow_src (P := Try.prog) W 24 24 ty 52 i0 _ Try.underlying24 hi hz0 a L.length cap (flatI L) (by rw [hz1]; exact hold) (.slice ax m.length cx) m.length (flatI m) (by rw [hz1]; exact hsrc) hg (by omega) (growslice_fits hg (by rw [hz2]; omega))
  refine ⟨_, _, hr, ?_, ((Below.refl W.heap.size W).drew).alloc (Nat.le_refl _) _⟩
  have hge := grownCap_ge W (L.length + m.length) cap 52
  have hle := grownCap_le_maxLen W (L.length + m.length) cap 52 (by unfold maxLen; omega)
  generalize grownCap W (L.length + m.length) cap 52 = G at *
  unfold OwnIt
  rw [List.length_append]
  refine ⟨by rw [flatI_len, List.length_append], .inr ⟨W.heap.size, G, _, rfl, Nat.le_refl _, heap_new W.drew _, hge, hle, ?_, ?_⟩⟩
  · simp only [Array.size_append, size_zeroCells]
    have e1 : (flatI L ++ flatI m).toArray.size = (L.length + m.length) * 2 := by simp [flatI_len]; omega
    rw [e1]
    show (L.length + m.length) * 2 + (G - (L.length + m.length)) * 2 = G * 2
    omega
  · rw [flatI_append]
    simp only [Array.toList_append]
    rw [List.take_append_of_le_length (by simp [flatI_len]; omega)]
    exact List.take_of_length_le (by simp [flatI_len]; omega)
def GrowEnd (w : World) (e : Ending) (w' : World) : Prop := ∃ v, e = .returned v ∧ OwnIt w' w.heap.size 52 v [] ∧ Below w.heap.size w w'
set_option maxHeartbeats 1000000 in
theorem grow_any (n : Nat) (hn : n ≤ 200000) (w : World) : Calls Try.prog 49 #[.slice none 0 0, .int .i64 n] w (GrowEnd w) := by
  by_cases h0 : n = 0
  · subst h0
    go_enter Try.func49, Try.ntmps49
    go_wp2_with fail
    go_ret
    exact ⟨_, rfl, ownIt_nil _ _ _, Below.refl _ _⟩
  · obtain ⟨i0, hi, hz0, hz1, hz2⟩ := info_parts infoPit
    have hr := fun ty => Go.Lib.run_append_grow_zeros (P := Try.prog) w 24 3 ty 52 i0 _ .i64 .i64 Try.underlying24 Try.underlying3 hi hz0 none 0 0 [] (by simp [Builtin.firstCells]) n (by omega) (by omega) (by omega) (by omega) (by rw [hz2]; omega) (growslice_fits (by omega) (by rw [hz2]; omega))
    have hge := grownCap_ge w (0 + n) 0 52
    have hle := grownCap_le_maxLen w (0 + n) 0 52 (by unfold maxLen; omega)
    generalize grownCap w (0 + n) 0 52 = G at *
    rw [Nat.zero_add] at hge hr
    have hown : OwnIt ((w.alloc (.cells (Builtin.zeroCells #[.int .u64 0, .string { data := #[] }] n ++ Builtin.zeroCells #[.int .u64 0, .string { data := #[] }] (G - n)) 52)).drew) w.heap.size 52 (.slice (some ⟨w.heap.size, 0, none⟩) 0 G) [] := by
      refine ⟨rfl, .inr ⟨w.heap.size, G, _, rfl, Nat.le_refl _, heap_new w _, Nat.zero_le _, hle, ?_, ?_⟩⟩
      · simp only [Array.size_append, size_zeroCells]
        show n * 2 + (G - n) * 2 = G * 2
        omega
      · simp; rfl
    have HO := Lib.hid hown
    clear hown
    have hpos : (0 : Int) < n := by omega
    go_enter Try.func49, Try.ntmps49
    go_wp2_with (first | (at_builtin; refine Lib.wpList_append_run _ rfl _ _ _ _ rfl _ _ rfl rfl _ _ (hr _) ?_) | fail)
    go_ret
    exact ⟨_, rfl, HO.out, by go_grown⟩
/-- The first j of two. -/
def two2 (j : Nat) (a c : List It) : List It := (if 0 < j then a else []) ++ (if 1 < j then c else [])
def pick2 {α : Type} (j : Nat) (x y : α) : α := if j = 0 then x else y
theorem two2_next (j : Nat) (hj : j < 2) (a c : List It) : two2 (j + 1) a c = two2 j a c ++ pick2 j a c := by
  rcases (by omega : j = 0 ∨ j = 1) with rfl | rfl <;> simp [two2, pick2]
theorem two2_len (j : Nat) (a c : List It) : (two2 j a c).length ≤ a.length + c.length := by
  unfold two2
  rw [List.length_append]
  split <;> split <;> simp
def ConcEnd (l : List It) (w : World) (e : Ending) (w' : World) : Prop := ∃ v, e = .returned v ∧ OwnIt w' w.heap.size 52 v l ∧ Below w.heap.size w w'
set_option maxHeartbeats 2000000 in
theorem concat_any (v1 v2 : Value) (a c : List It) (b : Nat) (w : World) (h1 : ItsAt w v1 a) (h2 : ItsAt w v2 c) (hl : a.length + c.length ≤ 200000) (hb : b < w.heap.size) (c1 : w.cell? ⟨b, 0, none⟩ = some v1) (c2 : w.cell? ⟨b, 1, none⟩ = some v2) :
    Calls Try.prog 34 #[.slice (some ⟨b, 0, none⟩) 2 2] w (ConcEnd (a ++ c) w) := by
  have HG := Lib.hid (fun n hn w => grow_any n hn w)
  have hcell : ∀ (j : Nat) (W : World), j < 2 → Below w.heap.size w W → W.cell? ⟨b, j, none⟩ = some (pick2 j v1 v2) ∧ ItsAt W (pick2 j v1 v2) (pick2 j a c) := by
    intro j W hj hW
    rcases (by omega : j = 0 ∨ j = 1) with rfl | rfl
    · exact ⟨vcell_later hW c1, h1.below hW⟩
    · exact ⟨vcell_later hW c2, h2.below hW⟩
  have HC := Lib.hid hcell
  have hsum : ∀ j, j < 2 → (two2 (j + 1) a c).length = (two2 j a c).length + (pick2 j a c).length := fun j hj => by rw [two2_next j hj, List.length_append]
  have HS := Lib.hid hsum
  have HT := Lib.hid (fun j => two2_len j a c)
  have HN := Lib.hid (fun j hj => two2_next j hj a c)
  clear hcell h1 h2 c1 c2 hsum
  go_enter Try.func34, Try.ntmps34
  go_wp2_with fail
  go_loopw [3, 11] (fun n s wr => ∃ j : Nat, j ≤ 2 ∧ s = .int .i64 j ∧ n = .int .i64 ((two2 j a c).length : Nat) ∧ Below w.heap.size w wr) (fun _ s _ => 2 - (intOf s).toNat)
  case atStart => exact ⟨0, by omega, rfl, rfl, Below.refl _ _⟩
  case round =>
    obtain ⟨j, hj, rfl, rfl, hbw⟩ := hrel
    have hlen := HT.out j
    by_cases hlt : j < 2
    · obtain ⟨q1, al, cap, hv, hle, hmx, _⟩ := HC.out j wr hlt hbw
      rw [hv] at q1
      have hs := HS.out j hlt
      have hlen2 := HT.out (j + 1)
      have hj2 : (j : Int) < 2 := by omega
      go_wp2_with fail
      go_roundw
      case rel => exact ⟨j + 1, by omega, by go_num, by rw [hs]; go_num, hbw⟩
      case measure => simp [intOf]; omega
    · obtain rfl : j = 2 := by omega
      go_wp2_with fail
      refine (HG.out (two2 2 a c).length (by omega) _).mono ?_
      rintro e w1 ⟨v3, rfl, ho3, hb3⟩
      have hbw3 := hbw.trans (hb3.mono hbw.size)
      have HO3 := Lib.hid (ho3.mono hbw.size)
      clear hb3 hbw ho3 HG
      go_wp2_with fail
      go_loopw [6, 27] (fun o s wx => ∃ j : Nat, j ≤ 2 ∧ s = .int .i64 j ∧ Hid (OwnIt wx w.heap.size 52 o (two2 j a c)) ∧ Below w.heap.size w wx) (fun _ s _ => 2 - (intOf s).toNat)
      case atStart => exact ⟨0, by omega, rfl, HO3, hbw3⟩
      case round =>
        clear HO3 hbw3
        obtain ⟨j, hj, rfl, HO, hbw⟩ := hrel
        by_cases hlt : j < 2
        · obtain ⟨q1, q2⟩ := HC.out j _ hlt hbw
          have hlen2 := HT.out (j + 1)
          rw [HS.out j hlt] at hlen2
          obtain ⟨v5, w5, hr, ho5, hg5⟩ := itappend_run _ w.heap.size 24 52 24 _ Try.underlying24 infoPit rfl u6 (pick2 j v1 v2) (two2 j a c) (pick2 j a c) HO.out q2 (by omega) hbw.size
          rw [← HN.out j hlt] at ho5
          have HO5 := Lib.hid ho5
          have hbw5 := hbw.grown hg5 hbw.size (fun k hk => (HO.out.lt k hk).1)
          obtain ⟨al, cap, hv, hle, hmx, _⟩ := q2
          rw [hv] at q1 hr
          have hj2 : (j : Int) < 2 := by omega
          clear ho5 hg5 hv
          go_wp2_with (first | (at_builtin; refine Lib.wpList_append_run _ rfl _ _ _ _ rfl _ _ rfl rfl _ _ hr ?_) | fail)
          go_roundw
          case rel => exact ⟨j + 1, by omega, by go_num, HO5, hbw5⟩
          case measure => simp [intOf]; omega
        · obtain rfl : j = 2 := by omega
          go_wp2_with fail
          go_ret
          exact ⟨_, rfl, HO.out, hbw⟩
/-- A row that nobody else has. -/
def CloneEnd (l : List It) (w : World) (x : Ending) (w' : World) : Prop := ∃ v', x = .returned v' ∧ ItsAt w' v' l ∧ Below w.heap.size w w'
theorem slice_some_eq (ad : Addr) (n c : Nat) (w : World) : (Op.equal 24 (.slice (some ad) n c) (.slice none 0 0)).run Try.prog w = .ok false w := by
  rw [Op.equal, show Op.maxDepth = 9999 + 1 from rfl]
  unfold Op.equalIn
  simp [go_sem]
theorem slice_some_eql (ad : Addr) (n c : Nat) (w : World) : (binOp BinOp.eql 24 (.slice (some ad) n c) (.slice none 0 0)).run Try.prog w = .ok (.bool false) w := by
  simp [binOp, go_sem, slice_some_eq]
theorem slice_none_eq (c : Nat) (w : World) : (Op.equal 24 (.slice none 0 c) (.slice none 0 0)).run Try.prog w = .ok true w := by
  rw [Op.equal, show Op.maxDepth = 9999 + 1 from rfl]
  unfold Op.equalIn
  simp [go_sem]
theorem slice_none_eql (c : Nat) (w : World) : (binOp BinOp.eql 24 (.slice none 0 c) (.slice none 0 0)).run Try.prog w = .ok (.bool true) w := by
  simp [binOp, go_sem, slice_none_eq]
set_option maxHeartbeats 1000000 in
theorem clone_any (v : Value) (l : List It) (w : World) (hv : ItsAt w v l) (hl : l.length ≤ 200000) : Calls Try.prog 33 #[v] w (CloneEnd l w) := by
  obtain ⟨i0, hi, hz0, hz1, hz2⟩ := info_parts infoPit
  have HI0 := Lib.hid hi
  have HZ0 := Lib.hid hz0
  have HZ1 := Lib.hid hz1
  have HZ2 := Lib.hid hz2
  clear hi hz0 hz1 hz2
  have hv' := hv
  obtain ⟨a, cap, rfl, h1, h2, hc⟩ := hv'
  cases a with
  | none =>
    have hl0 : l = [] := by
      cases l with
      | nil => rfl
      | cons t l => obtain ⟨g, off, ha, _⟩ := hc 0 t rfl; cases ha
    subst hl0
    clear hc hv
    have hneq := fun W => slice_none_eql cap W
    go_enter Try.func33, Try.ntmps33
    go_wp2_with fail
    go_ret
    exact ⟨_, rfl, its_nil _, Below.refl _ _⟩
  | some ad =>
    have HV := Lib.hid hv
    have hneq := fun W => slice_some_eql ad l.length cap W
    clear hc hv
    go_enter Try.func33, Try.ntmps33
    have HO : Hid ((w.alloc (.cells #[] 52)).ownsRow w.heap.size 52 2 (.slice (some ⟨w.heap.size, 0, none⟩) 0 0) 0 (flatI [])) := Lib.hid ⟨rfl, .inr ⟨w.heap.size, 0, #[], rfl, Nat.le_refl _, heap_new w _, Nat.le_refl _, Nat.zero_le _, rfl, rfl⟩⟩
    have HNW := Lib.hid (its_cells (HV.out.below ((Below.refl w.heap.size w).alloc (Nat.le_refl _) (.cells #[] 52))))
    go_wp2_with (first | (at_builtin; refine wpList_append_own _ rfl _ _ 24 rfl w.heap.size 52 i0 (.agg #[.int .u64 0, .string { data := #[] }]) 2 24 Try.underlying24 HI0.out HZ0.out HZ1.out HZ2.out rfl (by decide) _ _ _ rfl HO.out ad l.length cap (flatI l) rfl (flatI_len l) HNW.out (flatI_one l) ?c4 ?c5 ?c6 ?_) | fail)
    case c4 => unfold maxLen; omega
    case c5 => omega
    case c6 => simp
    intro v' w5 hown' hgr _
    have hO : OwnIt w5 w.heap.size 52 v' l := by
      have h := hown'
      unfold OwnIt
      simpa [flatI] using h
    have hb5 : Below w.heap.size w w5 := ((Below.refl w.heap.size w).alloc (Nat.le_refl _) _).grown hgr (by simp) (fun g hg => (World.ownsRow.lt HO.out g hg).1)
    have HO5 := Lib.hid hO
    have HB5 := Lib.hid hb5
    clear hown' hgr hO hb5
    go_wp2_with fail
    go_ret
    exact ⟨_, rfl, HO5.out.itsAt, HB5.out⟩
theorem items_any (s : Value) (l : List It) (w : World) (h : ChS w s l) :
    Calls Try.prog 13 #[.agg #[s]] w fun e w' => ∃ v, e = .returned v ∧ ItsAt w' v l ∧ Below w.heap.size w w' := by
  have HC := Lib.hid (fun W (hb : Below w.heap.size w W) => clone_any s l W (h.its.below hb) (by have := h.good.few; omega))
  obtain ⟨a, n, c, rfl⟩ := h.form
  clear h
  go_enter Try.func13, Try.ntmps13
  go_wp2_with fail
  refine (HC.out _ (by go_grown)).mono ?_
  rintro e w1 ⟨v', rfl, hv, hb⟩
  have H1 := Lib.hid (((Below.refl w.heap.size w).alloc (Nat.le_refl _) _).trans (hb.mono (by simp)))
  have HV := Lib.hid hv
  clear hb hv
  go_wp2_with fail
  go_ret
  exact ⟨_, rfl, HV.out, H1.out⟩
end Go.Proofs.Ytmmjdlpoiibhaaa
