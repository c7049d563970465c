/- Contracts of the chart's small functions: cmp.Compare, against, check, Get, Len; where a halving ends. -/
import Derived.Test.YtmmjdlpoiibhaaaLf
import Derived.Test.YtmmjdlpoiibhaaaLq
import Derived.Handy
namespace Go.Proofs.Ytmmjdlpoiibhaaa
open Go.RowKit
set_option maxRecDepth 20000
set_option linter.unusedVariables false
set_option linter.unusedSimpArgs false
theorem nan_any (x : Int) (w : World) : Calls Try.prog 64 #[.int .u64 x] w fun e w' => e = .returned (.bool false) ∧ w' = w := by
  go_enter Try.func64, Try.ntmps64
  go_wp2
  go_ret
  exact ⟨rfl, rfl⟩
def cmpI (x y : Int) : Int := if x < y then -1 else if x > y then 1 else 0
set_option maxHeartbeats 1000000 in
theorem compare_any (x y : Int) (w : World) : Calls Try.prog 59 #[.int .u64 x, .int .u64 y] w fun e w' => e = .returned (.int .i64 (cmpI x y)) ∧ w' = w := by
  have HN := Lib.hid (fun a W => nan_any a W)
  unfold cmpI
  by_cases h : x < y
  · rw [if_pos h]
    go_enter Try.func59, Try.ntmps59
    go_wp2_with fail
    refine (HN.out _ _).mono ?_
    rintro e w1 ⟨rfl, rfl⟩
    go_wp2_with fail
    refine (HN.out _ _).mono ?_
    rintro e w1 ⟨rfl, rfl⟩
    go_wp2_with fail
    go_ret
    exact ⟨rfl, rfl⟩
  · rw [if_neg h]
    by_cases h2 : x > y
    · rw [if_pos h2]
      go_enter Try.func59, Try.ntmps59
      go_wp2_with fail
      refine (HN.out _ _).mono ?_
      rintro e w1 ⟨rfl, rfl⟩
      go_wp2_with fail
      refine (HN.out _ _).mono ?_
      rintro e w1 ⟨rfl, rfl⟩
      go_wp2_with fail
      go_ret
      exact ⟨rfl, rfl⟩
    · rw [if_neg h2]
      go_enter Try.func59, Try.ntmps59
      go_wp2_with fail
      refine (HN.out _ _).mono ?_
      rintro e w1 ⟨rfl, rfl⟩
      go_wp2_with fail
      refine (HN.out _ _).mono ?_
      rintro e w1 ⟨rfl, rfl⟩
      go_wp2_with fail
      go_ret
      exact ⟨rfl, rfl⟩
theorem cmpI_lt (x y : Int) : decide (cmpI x y < 0) = decide (x < y) := by
  unfold cmpI
  by_cases h : x < y
  · simp [h]
  · by_cases h2 : x > y <;> simp [h, h2]
theorem cmpI_eq (x y : Int) : decide (cmpI x y = 0) = decide (x = y) := by
  unfold cmpI
  by_cases h : x < y
  · simp [h]; omega
  · by_cases h2 : x > y
    · simp [h, h2]; omega
    · simp [h, h2]; omega
theorem against_any (t : It) (y : Nat) (w : World) : Calls Try.prog 47 #[.agg #[.int .u64 t.1, .string t.2], .int .u64 y] w fun e w' => e = .returned (.int .i64 (cmpI t.1 y)) ∧ Below w.heap.size w w' := by
  have HC := Lib.hid (fun W => compare_any t.1 y W)
  go_enter Try.func47, Try.ntmps47
  go_wp2_with fail
  refine (HC.out _).mono ?_
  rintro e w1 ⟨rfl, rfl⟩
  go_wp2_with fail
  go_ret
  exact ⟨rfl, by go_grown⟩
/-- Where a tile stands, or would stand. -/
def loC (id : Nat) (l : List It) : Nat := (lowI id l).length
theorem loC_le (id : Nat) (l : List It) : loC id l ≤ l.length := low_le id l
theorem high_at {id : Nat} {l : List It} (hr : Rise l) (d : Nat) (t : It) (h : l[d]? = some t) : t.1 < id ↔ d < loC id l := by
  constructor
  · intro ht
    rcases Nat.lt_or_ge d (loC id l) with h1 | h1
    · exact h1
    · exfalso
      have h2 : (highI id l)[d - loC id l]? = some t := by
        rw [← low_drop id l, List.getElem?_drop]
        show l[loC id l + (d - loC id l)]? = some t
        rw [Nat.add_sub_cancel' h1]
        exact h
      have := high_ge hr t (List.mem_of_getElem? h2)
      omega
  · intro hd
    obtain ⟨u, hu, hlt⟩ := low_at id l d hd
    rw [h] at hu
    cases hu
    exact hlt
/-- Whether it is there. -/
theorem isC {id : Nat} {l : List It} (hr : Rise l) : (getI id l).isSome = decide (∃ t, l[loC id l]? = some t ∧ t.1 = id) := by
  rw [Bool.eq_iff_iff, getI_some, decide_eq_true_iff]
  constructor
  · rintro ⟨t, ht, he⟩
    obtain ⟨d, hd⟩ := List.mem_iff_getElem?.1 ht
    have h1 := (high_at (id := id) hr d t hd)
    have h2 : ¬ d < loC id l := fun h => by have := h1.2 h; omega
    rcases Nat.lt_or_ge (loC id l) d with h3 | h3
    · exfalso
      obtain ⟨u, hu⟩ : ∃ u, l[loC id l]? = some u := ⟨_, List.getElem?_eq_getElem (by have := (List.getElem?_eq_some_iff.1 hd).1; omega)⟩
      have h4 := low_end id l u hu
      have h5 : u.1 < t.1 := by
        obtain ⟨a1, rfl⟩ := List.getElem?_eq_some_iff.1 hu
        obtain ⟨a2, rfl⟩ := List.getElem?_eq_some_iff.1 hd
        exact List.pairwise_iff_getElem.1 hr _ _ a1 a2 h3
      omega
    · have : d = loC id l := by omega
      subst this
      exact ⟨t, hd, he⟩
  · rintro ⟨t, ht, he⟩
    exact ⟨t, List.mem_of_getElem? ht, he⟩
theorem getC {id : Nat} {l : List It} (hr : Rise l) (t : It) (h : l[loC id l]? = some t) (he : t.1 = id) : getI id l = some t.2 := by
  rw [← he]; exact get_at hr _ t h
theorem del_no {id : Nat} {l : List It} (h : (getI id l).isSome = false) : delI id l = l := by
  unfold delI
  rw [List.filter_eq_self]
  intro u hu
  have hn : getI id l = none := by cases hg : getI id l with | none => rfl | some x => rw [hg] at h; cases h
  have := (getI_none id l).1 hn u hu
  simpa using this
theorem del_yes {id : Nat} {l : List It} (hr : Rise l) (t : It) (h : l[loC id l]? = some t) (he : t.1 = id) : delI id l = l.take (loC id l) ++ l.drop (loC id l + 1) := by
  apply rise_ext (del_rise hr)
  · have e : (l.take (loC id l) ++ l.drop (loC id l + 1)).Sublist l := by
      conv => rhs; rw [← List.take_append_drop (loC id l) l]
      refine List.Sublist.append (List.Sublist.refl _) ?_
      rw [idrop_at l _ t h]
      exact List.sublist_cons_self _ _
    exact List.Pairwise.sublist e hr
  · intro u
    have hl : u ∈ l ↔ u ∈ l.take (loC id l) ∨ u = t ∨ u ∈ l.drop (loC id l + 1) := by
      conv => lhs; rw [← List.take_append_drop (loC id l) l, idrop_at l _ t h]
      rw [List.mem_append, List.mem_cons]
    rw [mem_del, hl, List.mem_append]
    have hlt : ∀ u ∈ l.take (loC id l), u.1 < id := by
      intro u hu
      have : u ∈ lowI id l := by
        have e := low_take id l
        unfold loC at hu
        rwa [e] at hu
      exact mem_low this
    have hgt : ∀ u ∈ l.drop (loC id l + 1), id < u.1 := by
      intro u hu
      obtain ⟨j, hj⟩ := List.mem_iff_getElem?.1 hu
      rw [List.getElem?_drop] at hj
      obtain ⟨a1, e1⟩ := List.getElem?_eq_some_iff.1 h
      obtain ⟨a2, e2⟩ := List.getElem?_eq_some_iff.1 hj
      have := List.pairwise_iff_getElem.1 hr _ _ a1 a2 (by omega)
      rw [e1, e2] at this
      omega
    constructor
    · rintro ⟨h1 | h1 | h1, h2⟩
      · exact .inl h1
      · subst h1; exact absurd he h2
      · exact .inr h1
    · rintro (h1 | h1)
      · exact ⟨.inl h1, by have := hlt u h1; omega⟩
      · exact ⟨.inr (.inr h1), by have := hgt u h1; omega⟩
theorem put_no {id : Nat} {s : ByteArray} {l : List It} (h : (getI id l).isSome = false) : putI id s l = l.take (loC id l) ++ (id, s) :: l.drop (loC id l) := by
  unfold putI
  rw [del_no h]
  unfold loC
  rw [low_take, low_drop]
theorem put_yes {id : Nat} {s : ByteArray} {l : List It} (hr : Rise l) (t : It) (h : l[loC id l]? = some t) (he : t.1 = id) : putI id s l = l.take (loC id l) ++ (id, s) :: l.drop (loC id l + 1) := by
  apply rise_ext (put_rise id s hr)
  · have hd : Rise (l.take (loC id l) ++ l.drop (loC id l + 1)) := by rw [← del_yes hr t h he]; exact del_rise hr
    have hlt : ∀ u ∈ l.take (loC id l), u.1 < id := by
      intro u hu
      have : u ∈ lowI id l := by
        have e := low_take id l
        unfold loC at hu
        rwa [e] at hu
      exact mem_low this
    have hgt : ∀ u ∈ l.drop (loC id l + 1), id < u.1 := by
      intro u hu
      obtain ⟨j, hj⟩ := List.mem_iff_getElem?.1 hu
      rw [List.getElem?_drop] at hj
      obtain ⟨a1, e1⟩ := List.getElem?_eq_some_iff.1 h
      obtain ⟨a2, e2⟩ := List.getElem?_eq_some_iff.1 hj
      have := List.pairwise_iff_getElem.1 hr _ _ a1 a2 (by omega)
      rw [e1, e2] at this
      omega
    unfold Rise at hd ⊢
    rw [List.pairwise_append] at hd ⊢
    rw [List.pairwise_cons]
    refine ⟨hd.1, ⟨fun u hu => hgt u hu, hd.2.1⟩, fun a ha b hb => ?_⟩
    rcases List.mem_cons.1 hb with rfl | hb
    · exact hlt a ha
    · exact hd.2.2 a ha b hb
  · intro u
    rw [mem_put, ← mem_del, del_yes hr t h he, List.mem_append, List.mem_append, List.mem_cons]
    constructor
    · rintro (h1 | h1 | h1)
      · exact .inr (.inl h1)
      · exact .inl h1
      · exact .inr (.inr h1)
    · rintro (h1 | h1 | h1)
      · exact .inr (.inl h1)
      · exact .inl h1
      · exact .inr (.inr h1)
end Go.Proofs.Ytmmjdlpoiibhaaa
