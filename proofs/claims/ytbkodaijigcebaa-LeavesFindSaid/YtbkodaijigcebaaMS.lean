/- Several texts, one behind the other: Sa, Sb, Sc. -/
import Derived.Test.YtbkodaijigcebaaME
import Derived.Test.YtbkodaijigcebaaMF
import Derived.Handy
import Derived.Laws.ResultCell
/- Plain: where an identifier is looked for in a row, what is found there, the pointers, the tiles of which a row tells. No Go in sight. -/
namespace Go.Proofs.Ytbkodaijigcebaa
set_option linter.unusedVariables false
set_option linter.unusedSimpArgs false
def gS (l : List En) (k : Nat) : En := l.getD k zeroE
theorem gS_at {l : List En} {k : Nat} {e : En} (h : l[k]? = some e) : gS l k = e := by unfold gS; rw [List.getD_eq_getElem?_getD, h]; rfl
theorem gS_get (l : List En) (k : Nat) (h : k < l.length) : l[k]? = some (gS l k) := by
  rw [List.getElem?_eq_getElem h, gS, List.getD_eq_getElem?_getD, List.getElem?_eq_getElem h]; rfl
theorem gS_mem (l : List En) (k : Nat) (h : k < l.length) : gS l k ∈ l := List.mem_of_getElem? (gS_get l k h)
/-- The last of the first n entries that is not above q; -1, if there is none. -/
def plG (l : List En) (q : Int) : Nat → Int
  | 0 => -1
  | i + 1 => if (gS l i).id ≤ q then (i : Int) else plG l q i
def placeN (l : List En) (q : Int) : Int := if rowN l = 0 then plG l q l.length else -1
def findN (l : List En) (q : Int) : En × Bool :=
  if placeN l q < 0 then (zeroE, false)
  else if 0 < (gS l (placeN l q).toNat).rn ∧ hasN (gS l (placeN l q).toNat) q = false then (zeroE, false) else (gS l (placeN l q).toNat, true)
def leavesN (l : List En) : List En := l.filter fun e => decide (e.rn = 0)
theorem rowG_lt (p : Int) (l : List En) (h : rowG p l = 0) (hm : ∀ e ∈ l, MayN e) : ∀ i j : Nat, i < j → j < l.length → laN (gS l i) < (gS l j).id := by
  induction l generalizing p with
  | nil => intro i j _ hj; simp at hj
  | cons e l ih =>
    intro i j hij hj
    have a := rowG_cons p e l h
    cases j with
    | zero => omega
    | succ j =>
      have hj' : j < l.length := by simpa using hj
      cases i with
      | zero =>
        show laN e < (gS l j).id
        exact (rowG_above _ l (fun x hx => hm x (List.mem_cons_of_mem _ hx)) a.2.2 _ (gS_mem l j hj')).1
      | succ i => exact ih (laN e) a.2.2 (fun x hx => hm x (List.mem_cons_of_mem _ hx)) i j (by omega) hj'
theorem row_G {l : List En} (h : rowN l = 0) : rowG (-1) l = 0 ∧ l.length ≤ 4096 := by
  unfold rowN at h
  split at h
  · omega
  · exact ⟨h, by omega⟩
theorem row_ck {l : List En} (hm : ∀ e ∈ l, MayN e) (h : rowN l = 0) (i : Nat) (hi : i < l.length) : ckN (gS l i) = 0 := (rowG_above _ l hm (row_G h).1 _ (gS_mem l i hi)).2
theorem row_lt {l : List En} (hm : ∀ e ∈ l, MayN e) (h : rowN l = 0) {i j : Nat} (hij : i < j) (hj : j < l.length) : laN (gS l i) < (gS l j).id := rowG_lt _ l (row_G h).1 hm i j hij hj
theorem row_le {l : List En} (hm : ∀ e ∈ l, MayN e) (h : rowN l = 0) {i j : Nat} (hij : i ≤ j) (hj : j < l.length) : (gS l i).id ≤ (gS l j).id := by
  rcases Nat.lt_or_eq_of_le hij with hlt | rfl
  · have h1 := row_lt hm h hlt hj
    have h2 := la_ge _ (hm _ (gS_mem l i (by omega))) (row_ck hm h i (by omega))
    omega
  · exact Int.le_refl _
theorem plG_spec {l : List En} (hm : ∀ e ∈ l, MayN e) (h : rowN l = 0) (q : Int) : ∀ n : Nat, n ≤ l.length → -1 ≤ plG l q n ∧ plG l q n < n ∧ ∀ i : Nat, i < n → ((gS l i).id ≤ q ↔ (i : Int) ≤ plG l q n)
  | 0, _ => ⟨by simp [plG], by simp [plG], fun i hi => by omega⟩
  | n + 1, hn => by
    obtain ⟨h1, h2, h3⟩ := plG_spec hm h q n (by omega)
    rw [plG]
    by_cases hq : (gS l n).id ≤ q
    · rw [if_pos hq]
      refine ⟨by omega, by omega, fun i hi => ⟨fun _ => by omega, fun _ => ?_⟩⟩
      have := row_le hm h (show i ≤ n by omega) (by omega)
      omega
    · rw [if_neg hq]
      refine ⟨h1, by omega, fun i hi => ?_⟩
      by_cases hin : i = n
      · subst hin
        exact ⟨fun a => absurd a hq, fun a => by omega⟩
      · exact h3 i (by omega)
theorem place_spec {l : List En} (hm : ∀ e ∈ l, MayN e) (h : rowN l = 0) (q : Int) : -1 ≤ placeN l q ∧ placeN l q < l.length ∧ ∀ i : Nat, i < l.length → ((gS l i).id ≤ q ↔ (i : Int) ≤ placeN l q) := by
  unfold placeN
  rw [if_pos h]
  exact plG_spec hm h q l.length (Nat.le_refl _)
theorem place_bd (l : List En) (hm : ∀ e ∈ l, MayN e) (q : Int) : -1 ≤ placeN l q ∧ placeN l q < (if l.length = 0 then 0 else (l.length : Int)) := by
  by_cases h : rowN l = 0
  · obtain ⟨h1, h2, _⟩ := place_spec hm h q
    refine ⟨h1, ?_⟩
    split <;> omega
  · unfold placeN
    rw [if_neg h]
    split <;> omega
/-- A place is told by what lies ahead of it and behind it. -/
theorem place_unique {l : List En} (hm : ∀ e ∈ l, MayN e) (h : rowN l = 0) (q p : Int) (h1 : -1 ≤ p) (h2 : p < l.length) (h3 : ∀ i : Nat, i < l.length → ((gS l i).id ≤ q ↔ (i : Int) ≤ p)) : placeN l q = p := by
  obtain ⟨a1, a2, a3⟩ := place_spec hm h q
  rcases Int.lt_trichotomy (placeN l q) p with hlt | he | hgt
  · have := (h3 p.toNat (by omega)).2 (by omega)
    have := (a3 p.toNat (by omega)).1 this
    omega
  · exact he
  · have := (a3 (placeN l q).toNat (by omega)).2 (by omega)
    have := (h3 (placeN l q).toNat (by omega)).1 this
    omega
/-- What an entry has is found, as that entry. -/
theorem find_has {l : List En} (hm : ∀ e ∈ l, MayN e) (h : rowN l = 0) (q : Int) (i : Nat) (hi : i < l.length) (hh : hasN (gS l i) q = true) : findN l q = (gS l i, true) := by
  have hb := (has_iff _ _).1 hh
  have hp : placeN l q = i := place_unique hm h q i (by omega) (by omega) (fun j hj => ⟨fun hq => by
      rcases Nat.lt_or_ge i j with hlt | hge
      · have := row_lt hm h hlt hj
        omega
      · omega, fun hq => by
      have := row_le hm h (show j ≤ i by omega) hi
      omega⟩)
  unfold findN
  rw [hp, if_neg (by omega), Int.toNat_natCast, if_neg (by rw [hh]; simp)]
theorem find_no (l : List En) (q : Int) (h : (findN l q).2 = false) : (findN l q).1 = zeroE := by
  by_cases h1 : placeN l q < 0
  · unfold findN; rw [if_pos h1]
  · by_cases h2 : 0 < (gS l (placeN l q).toNat).rn ∧ hasN (gS l (placeN l q).toNat) q = false
    · unfold findN; rw [if_neg h1, if_pos h2]
    · unfold findN at h
      rw [if_neg h1, if_neg h2] at h
      simp at h
theorem find_yes {l : List En} (hm : ∀ e ∈ l, MayN e) (h : rowN l = 0) (q : Int) (hf : (findN l q).2 = true) : 0 ≤ placeN l q ∧ (findN l q).1 = gS l (placeN l q).toNat ∧ (hasN (findN l q).1 q = true ∨ ((findN l q).1.rn = 0 ∧ (findN l q).1.id ≤ q)) := by
  obtain ⟨a1, a2, a3⟩ := place_spec hm h q
  by_cases h1 : placeN l q < 0
  · unfold findN at hf
    rw [if_pos h1] at hf
    simp at hf
  · by_cases h2 : 0 < (gS l (placeN l q).toNat).rn ∧ hasN (gS l (placeN l q).toNat) q = false
    · unfold findN at hf
      rw [if_neg h1, if_pos h2] at hf
      simp at hf
    · have he : findN l q = (gS l (placeN l q).toNat, true) := by unfold findN; rw [if_neg h1, if_neg h2]
      rw [he]
      refine ⟨by omega, rfl, ?_⟩
      by_cases hr : 0 < (gS l (placeN l q).toNat).rn
      · left
        cases hq : hasN (gS l (placeN l q).toNat) q with
        | true => rfl
        | false => exact absurd ⟨hr, hq⟩ h2
      · right
        have hml := hm _ (gS_mem l (placeN l q).toNat (by omega))
        unfold MayN at hml
        exact ⟨show (gS l (placeN l q).toNat).rn = 0 by omega, (a3 (placeN l q).toNat (by omega)).2 (by omega)⟩
theorem find_behind {l : List En} (hm : ∀ e ∈ l, MayN e) (h : rowN l = 0) (q : Int) (hf : (findN l q).2 = true) (i : Nat) (hi : i < l.length) (hgt : (findN l q).1.id < (gS l i).id) : ¬ (gS l i).id ≤ q := by
  obtain ⟨b1, b2, _⟩ := find_yes hm h q hf
  obtain ⟨a1, a2, a3⟩ := place_spec hm h q
  rw [b2] at hgt
  intro hq
  have hp := (a3 i hi).1 hq
  have := row_le hm h (show i ≤ (placeN l q).toNat by omega) (by omega)
  omega
theorem gS_take (l : List En) (n k : Nat) (h : k < n) : gS (l.take n) k = gS l k := by
  unfold gS
  rw [List.getD_eq_getElem?_getD, List.getD_eq_getElem?_getD, List.getElem?_take, if_pos h]
theorem gS_drop (l : List En) (n k : Nat) : gS (l.drop n) k = gS l (n + k) := by
  unfold gS
  rw [List.getD_eq_getElem?_getD, List.getD_eq_getElem?_getD, List.getElem?_drop]
theorem row_take {l : List En} (h : rowN l = 0) (n : Nat) : rowN (l.take n) = 0 := by
  obtain ⟨h1, h2⟩ := row_G h
  unfold rowN
  rw [if_neg (by rw [List.length_take]; omega)]
  exact rowG_left (-1) (l.take n) (l.drop n) (by rw [List.take_append_drop]; exact h1)
theorem row_drop {l : List En} (hm : ∀ e ∈ l, MayN e) (h : rowN l = 0) (n : Nat) : rowN (l.drop n) = 0 := by
  obtain ⟨h1, h2⟩ := row_G h
  unfold rowN
  rw [if_neg (by rw [List.length_drop]; omega)]
  have hl := rowG_left (-1) (l.take n) (l.drop n) (by rw [List.take_append_drop]; exact h1)
  have ha := rowG_append (-1) (l.take n) (l.drop n) hl
  rw [List.take_append_drop, h1] at ha
  refine rowG_from _ (-1) (l.drop n) ha.symm ?_
  have key : ∀ (m : List En) (p : Int), -1 ≤ p → (∀ e ∈ m, MayN e) → rowG p m = 0 → -1 ≤ m.foldl (fun _ e => laN e) p := by
    intro m
    induction m with
    | nil => intro p hp _ _; exact hp
    | cons e m ih =>
      intro p hp hm' hr
      obtain ⟨c1, c2, c3⟩ := rowG_cons p e m hr
      have := la_ge e (hm' e (List.mem_cons_self ..)) c1
      exact ih (laN e) (by omega) (fun x hx => hm' x (List.mem_cons_of_mem _ hx)) c3
  exact key _ _ (by omega) (fun e he => hm e (List.mem_of_mem_take he)) hl
/-- An identifier is found in a row as in its beginning up to it. -/
theorem place_take {l : List En} (hm : ∀ e ∈ l, MayN e) (h : rowN l = 0) (q : Int) : placeN (l.take (placeN l q + 1).toNat) q = placeN l q := by
  obtain ⟨a1, a2, a3⟩ := place_spec hm h q
  have hl : ((l.take (placeN l q + 1).toNat).length : Int) = placeN l q + 1 := by rw [List.length_take]; omega
  refine place_unique (fun e he => hm e (List.mem_of_mem_take he)) (row_take h _) q _ a1 (by omega) (fun i hi => ?_)
  rw [gS_take l _ i (by omega)]
  exact a3 i (by omega)
theorem find_take {l : List En} (hm : ∀ e ∈ l, MayN e) (h : rowN l = 0) (q : Int) : findN (l.take (placeN l q + 1).toNat) q = findN l q := by
  obtain ⟨a1, a2, a3⟩ := place_spec hm h q
  unfold findN
  rw [place_take hm h q]
  by_cases h1 : placeN l q < 0
  · rw [if_pos h1, if_pos h1]
  · rw [if_neg h1, if_neg h1, gS_take l _ _ (by omega)]
theorem place_drop {l : List En} (hm : ∀ e ∈ l, MayN e) (h : rowN l = 0) (q : Int) (hp : 0 ≤ placeN l q) : placeN (l.drop (placeN l q).toNat) q = 0 := by
  obtain ⟨a1, a2, a3⟩ := place_spec hm h q
  have hl : ((l.drop (placeN l q).toNat).length : Int) = l.length - placeN l q := by rw [List.length_drop]; omega
  refine place_unique (fun e he => hm e (List.mem_of_mem_drop he)) (row_drop hm h _) q 0 (by omega) (by omega) (fun i hi => ?_)
  rw [gS_drop]
  rw [a3 _ (by omega)]
  omega
/-- The tiles of which a row tells, rising, each with its entry. -/
def oneT (e : En) : List (Int × En) := (List.range e.rn.toNat).map fun (k : Nat) => (e.id + (k : Int), e)
def tilesN (l : List En) : List (Int × En) := if rowN l = 0 then l.flatMap oneT else []
theorem oneT_len (e : En) : (oneT e).length = e.rn.toNat := by simp [oneT]
theorem mem_oneT (e : En) (d : Int) (f : En) : (d, f) ∈ oneT e ↔ f = e ∧ e.id ≤ d ∧ d < e.id + e.rn := by
  unfold oneT
  rw [List.mem_map]
  constructor
  · rintro ⟨k, hk, h⟩
    rw [List.mem_range] at hk
    simp only [Prod.mk.injEq] at h
    exact ⟨h.2.symm, by omega, by omega⟩
  · rintro ⟨rfl, h1, h2⟩
    exact ⟨(d - f.id).toNat, by rw [List.mem_range]; omega, by simp only [Prod.mk.injEq, and_true]; omega⟩
theorem tiles_len (l : List En) (hm : ∀ e ∈ l, MayN e) (h : rowN l = 0) : ((tilesN l).length : Int) = cntN l := by
  unfold tilesN
  rw [if_pos h]
  have hc : ∀ e ∈ l, ckN e = 0 := fun e he => (rowG_above _ l hm (row_G h).1 e he).2
  clear h
  induction l with
  | nil => rfl
  | cons e l ih =>
    have h1 := ih (fun x hx => hm x (List.mem_cons_of_mem _ hx)) (fun x hx => hc x (List.mem_cons_of_mem _ hx))
    have hme := hm e (List.mem_cons_self ..)
    unfold MayN at hme
    rw [List.flatMap_cons, List.length_append, oneT_len]
    unfold cntN at h1 ⊢
    rw [List.map_cons, List.sum_cons, if_pos (hc e (List.mem_cons_self ..)), ← h1]
    omega
theorem mem_tiles {l : List En} (hm : ∀ e ∈ l, MayN e) (h : rowN l = 0) (d : Int) (e : En) : (d, e) ∈ tilesN l ↔ e ∈ l ∧ hasN e d = true := by
  unfold tilesN
  rw [if_pos h, List.mem_flatMap]
  constructor
  · rintro ⟨f, hf, hd⟩
    obtain ⟨rfl, h1, h2⟩ := (mem_oneT f d e).1 hd
    have hc := (rowG_above _ l hm (row_G h).1 e hf).2
    refine ⟨hf, (has_iff _ _).2 ⟨hc, by omega, h1, ?_⟩⟩
    unfold laN wdN
    rw [if_pos hc, if_neg (by omega)]
    omega
  · rintro ⟨he, hh⟩
    obtain ⟨b1, b2, b3, b4⟩ := (has_iff _ _).1 hh
    refine ⟨e, he, (mem_oneT e d e).2 ⟨rfl, b3, ?_⟩⟩
    unfold laN wdN at b4
    rw [if_pos b1, if_neg (by omega)] at b4
    omega
/-- What is gone through is found: the entry of each identifier. -/
theorem tiles_find {l : List En} (hm : ∀ e ∈ l, MayN e) (h : rowN l = 0) (d : Int) (e : En) (hd : (d, e) ∈ tilesN l) : findN l d = (e, true) ∧ e.rn ≠ 0 := by
  obtain ⟨he, hh⟩ := (mem_tiles hm h d e).1 hd
  obtain ⟨i, hi, rfl⟩ := List.getElem_of_mem he
  have hg : gS l i = l[i] := gS_at (List.getElem?_eq_getElem hi)
  rw [← hg] at hh ⊢
  exact ⟨find_has hm h d i hi hh, by have := ((has_iff _ _).1 hh).2.1; omega⟩
/-- The identifiers rise. -/
theorem tiles_rise {l : List En} (hm : ∀ e ∈ l, MayN e) (h : rowN l = 0) : (tilesN l).Pairwise fun a b => a.1 < b.1 := by
  have h1 := (row_G h).1
  unfold tilesN
  rw [if_pos h]
  clear h
  generalize (-1 : Int) = p at h1
  induction l generalizing p with
  | nil => exact List.Pairwise.nil
  | cons e l ih =>
    obtain ⟨c1, c2, c3⟩ := rowG_cons p e l h1
    have hm' : ∀ x ∈ l, MayN x := fun x hx => hm x (List.mem_cons_of_mem _ hx)
    rw [List.flatMap_cons, List.pairwise_append]
    refine ⟨?_, ih hm' (laN e) c3, ?_⟩
    · unfold oneT
      rw [List.pairwise_map]
      refine List.Pairwise.imp ?_ (List.pairwise_lt_range (n := e.rn.toNat))
      intro a b hab
      show e.id + (a : Int) < e.id + (b : Int)
      omega
    · rintro ⟨d, f⟩ hd ⟨d', f'⟩ hd'
      obtain ⟨rfl, b1, b2⟩ := (mem_oneT e d f).1 hd
      obtain ⟨g, hg, hd2⟩ := List.mem_flatMap.1 hd'
      obtain ⟨rfl, b3, b4⟩ := (mem_oneT g d' f').1 hd2
      have := (rowG_above _ l hm' c3 f' hg).1
      have hla : laN f = f.id + f.rn - 1 := by
        unfold laN wdN
        rw [if_pos c1, if_neg (by omega)]
      show d < d'
      omega
end Go.Proofs.Ytbkodaijigcebaa
/- Contracts of the document's Place, Find and Leaves. -/
namespace Go.Proofs.Ytbkodaijigcebaa
open Go.RowKit
set_option maxRecDepth 20000
set_option linter.unusedVariables false
set_option linter.unusedSimpArgs false
theorem leaves_step (l : List En) (i : Nat) (e : En) (h : l[i]? = some e) : leavesN (l.take (i + 1)) = leavesN (l.take i) ++ (if e.rn = 0 then [e] else []) := by
  rw [take_one l i e h]
  unfold leavesN
  rw [List.filter_append]
  by_cases hz : e.rn = 0 <;> simp [hz]
theorem info_lv : (Try.prog.info? 58).map (fun i => (i.zero, i.size, i.bytes)) = some (some (.agg #[.int .u64 0, .int .u64 0, .int .u32 0, .int .u32 0]), 4, 24) := by kernel_rfl
set_option maxHeartbeats 1000000 in
theorem rleaves_any (v : Value) (l : List En) (w : World) (hv : EnsAt w v l) (hl : l.length * 24 ≤ 140737488351232) : Calls Try.prog 27 #[v] w (EnsEnd (leavesN l) 58 w) := by
  obtain ⟨a, cap, rfl, h1, h2, hc⟩ := hv
  have HC := Lib.hid hc
  clear hc
  obtain ⟨i0, hi, hz0, hz1, hz2⟩ := info_parts info_lv
  have HI0 := Lib.hid hi
  have HZ0 := Lib.hid hz0
  have HZ1 := Lib.hid hz1
  have HZ2 := Lib.hid hz2
  clear hi hz0 hz1 hz2
  go_enter Try.func27, Try.ntmps27
  go_wp2_with fail
  go_loopw [3, 4] (fun v s wr => ∃ i : Nat, i ≤ l.length ∧ s = .int .i64 i ∧ OwnE wr w.heap.size 58 v (leavesN (l.take i)) ∧ Below w.heap.size w wr) (fun _ s _ => l.length - (intOf s).toNat)
  case atStart => exact ⟨0, Nat.zero_le _, rfl, ownE_nil _ _ _, Below.refl _ _⟩
  case round =>
    obtain ⟨i, hi, rfl, hown, hbw⟩ := hrel
    by_cases hlt : i < l.length
    · obtain ⟨t, ht⟩ : ∃ t, l[i]? = some t := ⟨_, List.getElem?_eq_getElem hlt⟩
      obtain ⟨g, off, rfl, hg, l0, l1, l2, l3⟩ := HC.out i t ht
      replace l0 := ecell_later hbw l0
      replace l1 := ecell_later hbw l1
      replace l2 := ecell_later hbw l2
      replace l3 := ecell_later hbw l3
      have hsz := hbw.size
      have HTK := Lib.hid (leaves_step l i t ht)
      have HOWN : Hid (wr.ownsRow w.heap.size 58 4 u3 (leavesN (l.take i)).length (flat4 (leavesN (l.take i)))) := Lib.hid hown
      have hlen : (leavesN (l.take i)).length ≤ i := by have := List.length_filter_le (fun e => decide (e.rn = 0)) (l.take i); rw [List.length_take] at this; unfold leavesN; omega
      have HLEN := Lib.hid hlen
      have hi2 : (i : Int) < (l.length : Int) := by omega
      by_cases hz : t.rn = 0
      · rw [if_pos hz] at HTK
        have hd : (t.rn == 0) = true := by simpa using hz
        clear ht hown hlen hz
        obtain ⟨p, q, r, s⟩ := t
        dsimp only at l0 l1 l2 l3
        go_wp2_with (first | (at_builtin; refine wpList_append_own _ rfl _ _ 22 rfl w.heap.size 58 i0 (.agg #[.int .u64 0, .int .u64 0, .int .u32 0, .int .u32 0]) 4 24 Try.underlying22 HI0.out HZ0.out HZ1.out HZ2.out rfl (by decide) _ _ _ rfl (World.ownsRow.alloc HOWN.out _) ⟨wr.heap.size, 0, none⟩ 1 1 [.int .u64 p, .int .u64 q, .int .u32 r, .int .u32 s] rfl rfl ?c2 ?c3 ?c4 ?c5 ?c6 ?_) | fail)
        case c3 => exact ⟨rfl, rfl, rfl, rfl⟩
        case c4 => have := HLEN.out; unfold maxLen; omega
        case c5 => have := HLEN.out; omega
        case c6 => first | omega | (simp; omega)
        intro v' w5 hown' hgr _
        have hb5 : Below w.heap.size w w5 := (hbw.alloc hsz _).grown hgr (by simp; omega) (fun g hg => (World.ownsRow.lt HOWN.out g hg).1)
        have hO' : OwnE w5 w.heap.size 58 v' (leavesN (l.take (i + 1))) := owne_conv hown' (by rw [HTK.out, List.length_append]; rfl) (by rw [HTK.out, flat4_append]; rfl)
        have HO' := Lib.hid hO'
        clear hown' hgr HOWN hO' l0 l1 l2 l3 hbw
        go_wp2_with fail
        go_roundw
        case rel => exact ⟨i + 1, by omega, by go_num, HO'.out, hb5⟩
        case measure => simp [intOf]; omega
      · rw [if_neg hz, List.append_nil] at HTK
        have hd : (t.rn == 0) = false := by simpa using hz
        clear ht hown hlen hz
        go_wp2_with fail
        go_roundw
        case rel => exact ⟨i + 1, by omega, by go_num, by rw [HTK.out]; exact HOWN.out, hbw⟩
        case measure => simp [intOf]; omega
    · obtain rfl : i = l.length := by omega
      rw [List.take_length] at hown
      go_wp2_with fail
      go_ret
      exact ⟨_, rfl, hown, hbw⟩
end Go.Proofs.Ytbkodaijigcebaa
/- The contract of the document's Find. -/
namespace Go.Proofs.Ytbkodaijigcebaa
open Go.RowKit
set_option maxRecDepth 20000
set_option linter.unusedVariables false
set_option linter.unusedSimpArgs false
theorem frozen_laterE {w w' : World} {o : Nat} {cs : Array Value} {T : TypeId} (hb : Below (w.alloc (.cells cs T)).heap.size (w.alloc (.cells cs T)) w') (hl : w.heap.size < (w.alloc (.cells cs T)).heap.size) : w'.frozen? ⟨w.heap.size, o, none⟩ = false := by
  have := hb.block w.heap.size hl
  simp only [World.frozen?]
  rw [this, heap_alloc_new]
  simp
theorem ret_eb {a b : En} {x y : Bool} (h : a = b) (h' : x = y) : Ending.returned (.tuple #[.agg #[.int .u64 a.id, .int .u64 a.off, .int .u32 a.ln, .int .u32 a.rn], .bool x]) = .returned (.tuple #[.agg (eC b), .bool y]) := by rw [h, h']; rfl
theorem eat_set {w : World} {b : Nat} {e : En} (s : EAt w b e) (i o n r : Int) : EAt ((((w.setCell ⟨b, 0, none⟩ (.int .u64 i)).setCell ⟨b, 1, none⟩ (.int .u64 o)).setCell ⟨b, 2, none⟩ (.int .u32 n)).setCell ⟨b, 3, none⟩ (.int .u32 r)) b ⟨i, o, n, r⟩ := by
  obtain ⟨c0, c1, c2, c3⟩ := s
  exact ⟨by simp [go_sem, c0], by simp [go_sem, c1], by simp [go_sem, c2], by simp [go_sem, c3]⟩
theorem below_set {a w : World} {B b : Nat} (h : Below B a w) (hb : B ≤ b) (i o n r : Int) : Below B a ((((w.setCell ⟨b, 0, none⟩ (.int .u64 i)).setCell ⟨b, 1, none⟩ (.int .u64 o)).setCell ⟨b, 2, none⟩ (.int .u32 n)).setCell ⟨b, 3, none⟩ (.int .u32 r)) :=
  ((((h.setCell (p := ⟨b, 0, none⟩) hb _).setCell (p := ⟨b, 1, none⟩) hb _).setCell (p := ⟨b, 2, none⟩) hb _).setCell (p := ⟨b, 3, none⟩) hb _)
end Go.Proofs.Ytbkodaijigcebaa
