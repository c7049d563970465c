/- Several texts, one behind the other: Ha, Hb, Hc. -/
import Derived.Test.YtleicghfcffblaaML
import Derived.Test.YtleicghfcffblaaLq
import Derived.Handy
/- Contracts of the chart's small functions: cmp.Compare, against, check, Get, Len; where a halving ends. -/
namespace Go.Proofs.Ytleicghfcffblaa
open Go.RowKit
set_option maxRecDepth 20000
set_option linter.unusedVariables false
set_option linter.unusedSimpArgs false
theorem nan_anyC (x : Int) (w : World) : Calls Try.prog 88 #[.int .u64 x] w fun e w' => e = .returned (.bool false) ∧ w' = w := by
  go_enter Try.func88, Try.ntmps88
  go_wp2
  go_ret
  exact ⟨rfl, rfl⟩
def cmpIC (x y : Int) : Int := if x < y then -1 else if x > y then 1 else 0
set_option maxHeartbeats 1000000 in
theorem compare_anyC (x y : Int) (w : World) : Calls Try.prog 82 #[.int .u64 x, .int .u64 y] w fun e w' => e = .returned (.int .i64 (cmpIC x y)) ∧ w' = w := by
  have HN := Lib.hid (fun a W => nan_anyC a W)
  unfold cmpIC
  by_cases h : x < y
  · rw [if_pos h]
    go_enter Try.func82, Try.ntmps82
    go_wp2_with fail
    refine (HN.out _ _).mono ?_
    rintro e w1 ⟨rfl, rfl⟩
    go_wp2_with fail
    refine (HN.out _ _).mono ?_
    rintro e w1 ⟨rfl, rfl⟩
    go_wp2_with fail
    go_ret
    exact ⟨rfl, rfl⟩
  · rw [if_neg h]
    by_cases h2 : x > y
    · rw [if_pos h2]
      go_enter Try.func82, Try.ntmps82
      go_wp2_with fail
      refine (HN.out _ _).mono ?_
      rintro e w1 ⟨rfl, rfl⟩
      go_wp2_with fail
      refine (HN.out _ _).mono ?_
      rintro e w1 ⟨rfl, rfl⟩
      go_wp2_with fail
      go_ret
      exact ⟨rfl, rfl⟩
    · rw [if_neg h2]
      go_enter Try.func82, Try.ntmps82
      go_wp2_with fail
      refine (HN.out _ _).mono ?_
      rintro e w1 ⟨rfl, rfl⟩
      go_wp2_with fail
      refine (HN.out _ _).mono ?_
      rintro e w1 ⟨rfl, rfl⟩
      go_wp2_with fail
      go_ret
      exact ⟨rfl, rfl⟩
theorem cmpI_ltC (x y : Int) : decide (cmpIC x y < 0) = decide (x < y) := by
  unfold cmpIC
  by_cases h : x < y
  · simp [h]
  · by_cases h2 : x > y <;> simp [h, h2]
theorem cmpI_eqC (x y : Int) : decide (cmpIC x y = 0) = decide (x = y) := by
  unfold cmpIC
  by_cases h : x < y
  · simp [h]; omega
  · by_cases h2 : x > y
    · simp [h, h2]; omega
    · simp [h, h2]; omega
theorem against_anyC (t : It) (y : Nat) (w : World) : Calls Try.prog 72 #[.agg #[.int .u64 t.1, .string t.2], .int .u64 y] w fun e w' => e = .returned (.int .i64 (cmpIC t.1 y)) ∧ Below w.heap.size w w' := by
  have HC := Lib.hid (fun W => compare_anyC t.1 y W)
  go_enter Try.func72, Try.ntmps72
  go_wp2_with fail
  refine (HC.out _).mono ?_
  rintro e w1 ⟨rfl, rfl⟩
  go_wp2_with fail
  go_ret
  exact ⟨rfl, by go_grown⟩
/-- Where a tile stands, or would stand. -/
def loC (id : Nat) (l : List It) : Nat := (lowI id l).length
theorem loC_le (id : Nat) (l : List It) : loC id l ≤ l.length := low_le id l
theorem high_at {id : Nat} {l : List It} (hr : Rise l) (d : Nat) (t : It) (h : l[d]? = some t) : t.1 < id ↔ d < loC id l := by
  constructor
  · intro ht
    rcases Nat.lt_or_ge d (loC id l) with h1 | h1
    · exact h1
    · exfalso
      have h2 : (highI id l)[d - loC id l]? = some t := by
        rw [← low_drop id l, List.getElem?_drop]
        show l[loC id l + (d - loC id l)]? = some t
        rw [Nat.add_sub_cancel' h1]
        exact h
      have := high_ge hr t (List.mem_of_getElem? h2)
      omega
  · intro hd
    obtain ⟨u, hu, hlt⟩ := low_at id l d hd
    rw [h] at hu
    cases hu
    exact hlt
/-- Whether it is there. -/
theorem isC {id : Nat} {l : List It} (hr : Rise l) : (getI id l).isSome = decide (∃ t, l[loC id l]? = some t ∧ t.1 = id) := by
  rw [Bool.eq_iff_iff, getI_some, decide_eq_true_iff]
  constructor
  · rintro ⟨t, ht, he⟩
    obtain ⟨d, hd⟩ := List.mem_iff_getElem?.1 ht
    have h1 := (high_at (id := id) hr d t hd)
    have h2 : ¬ d < loC id l := fun h => by have := h1.2 h; omega
    rcases Nat.lt_or_ge (loC id l) d with h3 | h3
    · exfalso
      obtain ⟨u, hu⟩ : ∃ u, l[loC id l]? = some u := ⟨_, List.getElem?_eq_getElem (by have := (List.getElem?_eq_some_iff.1 hd).1; omega)⟩
      have h4 := low_end id l u hu
      have h5 : u.1 < t.1 := by
        obtain ⟨a1, rfl⟩ := List.getElem?_eq_some_iff.1 hu
        obtain ⟨a2, rfl⟩ := List.getElem?_eq_some_iff.1 hd
        exact List.pairwise_iff_getElem.1 hr _ _ a1 a2 h3
      omega
    · have : d = loC id l := by omega
      subst this
      exact ⟨t, hd, he⟩
  · rintro ⟨t, ht, he⟩
    exact ⟨t, List.mem_of_getElem? ht, he⟩
theorem getC {id : Nat} {l : List It} (hr : Rise l) (t : It) (h : l[loC id l]? = some t) (he : t.1 = id) : getI id l = some t.2 := by
  rw [← he]; exact get_at hr _ t h
theorem del_no {id : Nat} {l : List It} (h : (getI id l).isSome = false) : delI id l = l := by
  unfold delI
  rw [List.filter_eq_self]
  intro u hu
  have hn : getI id l = none := by cases hg : getI id l with | none => rfl | some x => rw [hg] at h; cases h
  have := (getI_none id l).1 hn u hu
  simpa using this
theorem del_yes {id : Nat} {l : List It} (hr : Rise l) (t : It) (h : l[loC id l]? = some t) (he : t.1 = id) : delI id l = l.take (loC id l) ++ l.drop (loC id l + 1) := by
  apply rise_ext (del_rise hr)
  · have e : (l.take (loC id l) ++ l.drop (loC id l + 1)).Sublist l := by
      conv => rhs; rw [← List.take_append_drop (loC id l) l]
      refine List.Sublist.append (List.Sublist.refl _) ?_
      rw [idrop_at l _ t h]
      exact List.sublist_cons_self _ _
    exact List.Pairwise.sublist e hr
  · intro u
    have hl : u ∈ l ↔ u ∈ l.take (loC id l) ∨ u = t ∨ u ∈ l.drop (loC id l + 1) := by
      conv => lhs; rw [← List.take_append_drop (loC id l) l, idrop_at l _ t h]
      rw [List.mem_append, List.mem_cons]
    rw [mem_del, hl, List.mem_append]
    have hlt : ∀ u ∈ l.take (loC id l), u.1 < id := by
      intro u hu
      have : u ∈ lowI id l := by
        have e := low_take id l
        unfold loC at hu
        rwa [e] at hu
      exact mem_low this
    have hgt : ∀ u ∈ l.drop (loC id l + 1), id < u.1 := by
      intro u hu
      obtain ⟨j, hj⟩ := List.mem_iff_getElem?.1 hu
      rw [List.getElem?_drop] at hj
      obtain ⟨a1, e1⟩ := List.getElem?_eq_some_iff.1 h
      obtain ⟨a2, e2⟩ := List.getElem?_eq_some_iff.1 hj
      have := List.pairwise_iff_getElem.1 hr _ _ a1 a2 (by omega)
      rw [e1, e2] at this
      omega
    constructor
    · rintro ⟨h1 | h1 | h1, h2⟩
      · exact .inl h1
      · subst h1; exact absurd he h2
      · exact .inr h1
    · rintro (h1 | h1)
      · exact ⟨.inl h1, by have := hlt u h1; omega⟩
      · exact ⟨.inr (.inr h1), by have := hgt u h1; omega⟩
theorem put_no {id : Nat} {s : ByteArray} {l : List It} (h : (getI id l).isSome = false) : putI id s l = l.take (loC id l) ++ (id, s) :: l.drop (loC id l) := by
  unfold putI
  rw [del_no h]
  unfold loC
  rw [low_take, low_drop]
theorem put_yes {id : Nat} {s : ByteArray} {l : List It} (hr : Rise l) (t : It) (h : l[loC id l]? = some t) (he : t.1 = id) : putI id s l = l.take (loC id l) ++ (id, s) :: l.drop (loC id l + 1) := by
  apply rise_ext (put_rise id s hr)
  · have hd : Rise (l.take (loC id l) ++ l.drop (loC id l + 1)) := by rw [← del_yes hr t h he]; exact del_rise hr
    have hlt : ∀ u ∈ l.take (loC id l), u.1 < id := by
      intro u hu
      have : u ∈ lowI id l := by
        have e := low_take id l
        unfold loC at hu
        rwa [e] at hu
      exact mem_low this
    have hgt : ∀ u ∈ l.drop (loC id l + 1), id < u.1 := by
      intro u hu
      obtain ⟨j, hj⟩ := List.mem_iff_getElem?.1 hu
      rw [List.getElem?_drop] at hj
      obtain ⟨a1, e1⟩ := List.getElem?_eq_some_iff.1 h
      obtain ⟨a2, e2⟩ := List.getElem?_eq_some_iff.1 hj
      have := List.pairwise_iff_getElem.1 hr _ _ a1 a2 (by omega)
      rw [e1, e2] at this
      omega
    unfold Rise at hd ⊢
    rw [List.pairwise_append] at hd ⊢
    rw [List.pairwise_cons]
    refine ⟨hd.1, ⟨fun u hu => hgt u hu, hd.2.1⟩, fun a ha b hb => ?_⟩
    rcases List.mem_cons.1 hb with rfl | hb
    · exact hlt a ha
    · exact hd.2.2 a ha b hb
  · intro u
    rw [mem_put, ← mem_del, del_yes hr t h he, List.mem_append, List.mem_append, List.mem_cons]
    constructor
    · rintro (h1 | h1 | h1)
      · exact .inr (.inl h1)
      · exact .inl h1
      · exact .inr (.inr h1)
    · rintro (h1 | h1 | h1)
      · exact .inr (.inl h1)
      · exact .inl h1
      · exact .inr (.inr h1)
end Go.Proofs.Ytleicghfcffblaa
/- slices.BinarySearchFunc with 'against'; place. -/
namespace Go.Proofs.Ytleicghfcffblaa
open Go.RowKit
set_option maxRecDepth 20000
set_option linter.unusedVariables false
set_option linter.unusedSimpArgs false
set_option maxHeartbeats 1000000 in
theorem bin_anyC (v : Value) (l : List It) (id : Nat) (w : World) (hr : Rise l) (hv : ItsAt w v l) (hl : l.length ≤ 100000) : Calls Try.prog 71 #[v, .int .u64 id, .func (.func 72) #[] #[]] w fun x w' => x = .returned (.tuple #[.int .i64 (loC id l : Nat), .bool (getI id l).isSome]) ∧ Below w.heap.size w w' := by
  have HF := Lib.hid (fun t W => against_anyC t id W)
  have hle := loC_le id l
  obtain ⟨al, cap, rfl, hcap, hmx, hc⟩ := hv
  have HC := Lib.hid hc
  have HP := Lib.hid (fun d t h => high_at (id := id) hr d t h)
  have HL : Hid ((getI id l).isSome = decide (∃ t, l[loC id l]? = some t ∧ t.1 = id)) := Lib.hid (isC hr)
  generalize (getI id l).isSome = il at *
  obtain ⟨r, hr⟩ : ∃ r, loC id l = r := ⟨_, rfl⟩
  rw [hr] at HP HL hle ⊢
  clear hc hr
  go_enter Try.func71, Try.ntmps71
  go_wp2_with fail
  go_loopw [9, 10] (fun x y wr => ∃ a b : Nat, a ≤ r ∧ r ≤ b ∧ b ≤ l.length ∧ x = .int .i64 a ∧ y = .int .i64 b ∧ Below w.heap.size w wr) (fun x y _ => (intOf y).toNat - (intOf x).toNat)
  case atStart => exact ⟨0, l.length, Nat.zero_le _, by omega, Nat.le_refl _, rfl, rfl, Below.refl _ _⟩
  case round =>
    obtain ⟨a, b, h1, h2, h3, rfl, rfl, hbw⟩ := hrel
    by_cases hlt : a < b
    · obtain ⟨d, hd0⟩ : ∃ d : Nat, d = (a + b) / 2 := ⟨_, rfl⟩
      have hm1 : a ≤ d := by omega
      have hm2 : d < b := by omega
      obtain ⟨e, he⟩ : ∃ t, l[d]? = some t := ⟨_, List.getElem?_eq_getElem (by omega)⟩
      obtain ⟨g, off, rfl, hg, l0, l1⟩ := HC.out d e he
      have k0 := (hbw.cell (p := ⟨g, off + d * 2, none⟩) hg).trans l0
      have k1 := (hbw.cell (p := ⟨g, off + d * 2 + 1, none⟩) hg).trans l1
      have hi0 : (a : Int) < (b : Int) := by omega
      have hi2 : (d : Int) < (l.length : Int) := by omega
      have hw1 : IntKind.i64.wrap ((a : Int) + (b : Int)) = ((a + b : Nat) : Int) := by rw [IntKind.wrap_i64] <;> omega
      have hw2 : IntKind.u64.wrap ((a : Int) + (b : Int)) = ((a + b : Nat) : Int) := by rw [IntKind.wrap_u64]; omega
      have hP := HP.out d e he
      have HE := Lib.hid (HF.out e)
      have HLT := Lib.hid (cmpI_ltC (e.1 : Nat) (id : Int))
      clear he l0 l1
      subst hd0
      have hi2' : ((a : Int) + (b : Int)) / 2 < (l.length : Int) := by omega
      by_cases hq : e.1 < id
      · have hd : decide (cmpIC (e.1 : Int) (id : Int) < 0) = true := by rw [HLT.out]; simpa using hq
        have hq' : (a + b) / 2 + 1 ≤ r := by have := hP.1 hq; omega
        clear hq hP
        go_wp2_with fail
        refine (HE.out _).mono ?_
        rintro x w1 ⟨rfl, hb⟩
        have HB := Lib.hid (hbw.trans (hb.mono hbw.size))
        clear hb hbw k0 k1
        go_wp2_with fail
        go_roundw
        case rel => exact ⟨(a + b) / 2 + 1, b, hq', h2, h3, by go_num, rfl, HB.out⟩
        case measure => simp [intOf]; omega
      · have hd : decide (cmpIC (e.1 : Int) (id : Int) < 0) = false := by rw [HLT.out]; simpa using hq
        have hq' : r ≤ (a + b) / 2 := by
          rcases Nat.lt_or_ge ((a + b) / 2) r with h | h
          · exact absurd (hP.2 h) hq
          · exact h
        clear hq hP
        go_wp2_with fail
        refine (HE.out _).mono ?_
        rintro x w1 ⟨rfl, hb⟩
        have HB := Lib.hid (hbw.trans (hb.mono hbw.size))
        clear hb hbw k0 k1
        go_wp2_with fail
        go_roundw
        case rel => exact ⟨a, (a + b) / 2, h1, hq', by omega, rfl, by go_num, HB.out⟩
        case measure => simp [intOf]; omega
    · obtain rfl : a = r := by omega
      have hlt' : ¬ (a : Int) < (b : Int) := by omega
      have HBW := Lib.hid hbw
      by_cases hal : a < l.length
      · obtain ⟨e, he⟩ : ∃ t, l[a]? = some t := ⟨_, List.getElem?_eq_getElem hal⟩
        obtain ⟨g, off, rfl, hg, l0, l1⟩ := HC.out a e he
        have k0 := (hbw.cell (p := ⟨g, off + a * 2, none⟩) hg).trans l0
        have k1 := (hbw.cell (p := ⟨g, off + a * 2 + 1, none⟩) hg).trans l1
        have hi2 : (a : Int) < (l.length : Int) := by omega
        have HE := Lib.hid (HF.out e)
        have hil : il = decide ((e.1 : Int) = (id : Int)) := by
          rw [HL.out]
          apply decide_eq_decide.2
          constructor
          · rintro ⟨t, ht, h⟩
            rw [he] at ht
            cases ht
            omega
          · intro h
            exact ⟨e, he, by omega⟩
        have HIL := Lib.hid (hil.trans (cmpI_eqC _ _).symm)
        clear he l0 l1 hil hbw
        go_wp2_with fail
        refine (HE.out _).mono ?_
        rintro x w1 ⟨rfl, hb⟩
        have HB := Lib.hid (HBW.out.trans (hb.mono HBW.out.size))
        clear hb k0 k1
        go_wp2_with fail
        go_ret2
        refine ⟨?_, HB.out⟩
        rw [HIL.out]
        first | rfl | simp
      · have hil : il = false := by
          rw [HL.out, decide_eq_false_iff_not]
          rintro ⟨t, ht, _⟩
          exact hal (List.getElem?_eq_some_iff.1 ht).1
        obtain rfl : a = l.length := by omega
        subst hil
        have hi2 : ¬ (l.length : Int) < (l.length : Int) := by omega
        clear hbw
        go_wp2_with fail
        go_ret2
        exact ⟨rfl, HBW.out⟩
structure ChS (w : World) (s : Value) (l : List It) : Prop where
  its : ItsAt w s l
  good : GoodC l
theorem ChS.below {w w' : World} {s : Value} {l : List It} (h : ChS w s l) (hb : Below w.heap.size w w') : ChS w' s l := ⟨h.its.below hb, h.good⟩
theorem ChS.form {w : World} {s : Value} {l : List It} (h : ChS w s l) : ∃ a n c, s = .slice a n c := by
  obtain ⟨a, c, e, _⟩ := h.its
  exact ⟨_, _, _, e⟩
theorem chS_nil (w : World) : ChS w (.slice none 0 0) [] := ⟨its_nil w, goodC_nil⟩
theorem place_any (s : Value) (l : List It) (id : Nat) (w : World) (h : ChS w s l) : Calls Try.prog 52 #[.agg #[s], .int .u64 id] w fun e w' => e = .returned (.tuple #[.int .i64 (loC id l : Nat), .bool (getI id l).isSome]) ∧ Below w.heap.size w w' := by
  have HB := Lib.hid (fun W (hb : Below w.heap.size w W) => bin_anyC s l id W h.good.rise (h.its.below hb) (by have := h.good.few; omega))
  obtain ⟨a, n, c, rfl⟩ := h.form
  clear h
  go_enter Try.func52, Try.ntmps52
  go_wp2_with fail
  refine (HB.out _ (by go_grown)).mono ?_
  rintro e w1 ⟨rfl, hb⟩
  have H1 := Lib.hid (((Below.refl w.heap.size w).alloc (Nat.le_refl _) _).trans (hb.mono (by simp)))
  clear hb
  go_wp2_with fail
  go_ret2
  exact ⟨rfl, H1.out⟩
end Go.Proofs.Ytleicghfcffblaa
/- Contracts of the chart's check, Get, Len. -/
namespace Go.Proofs.Ytleicghfcffblaa
open Go.RowKit
set_option maxRecDepth 20000
set_option linter.unusedVariables false
set_option linter.unusedSimpArgs false
set_option maxHeartbeats 1000000 in
theorem check_any (s : Value) (l : List It) (id : Nat) (t : ByteArray) (w : World) (h : ChS w s l) (ht : t.size ≤ maxLen) :
    Calls Try.prog 53 #[.agg #[s], .agg #[.int .u64 id, .string t], .bool (getI id l).isSome] w fun e w' => e = .returned (.int .i64 (putE l id t : Nat)) ∧ Below w.heap.size w w' := by
  obtain ⟨al, cap, rfl, hcap, hmx, hc⟩ := h.its
  have hfew := h.good.few
  clear hc h
  unfold maxLen at hmx ht
  unfold putE
  obtain ⟨b, hb⟩ : ∃ b, (getI id l).isSome = b := ⟨_, rfl⟩
  have hb' : (getI id l).isNone = !b := by rw [← hb]; cases getI id l <;> rfl
  rw [hb, hb']
  clear hb hb'
  by_cases h1 : 6004799503160661 ≤ id
  · have h1' : (6004799503160661 : Int) ≤ (id : Int) := by omega
    rw [if_pos h1]
    go_enter Try.func53, Try.ntmps53
    go_wp2_with fail
    go_ret
    exact ⟨rfl, by go_grown⟩
  have h1' : ¬ (6004799503160661 : Int) ≤ (id : Int) := by omega
  rw [if_neg h1]
  by_cases h2 : t.size = 0
  · rw [if_pos h2]
    have h2' : (t.toList == []) = true := by
      have : t = { data := #[] } := ByteArray.ext (Array.eq_empty_of_size_eq_zero h2)
      rw [this, ByteArray.toList_eq]; rfl
    go_enter Try.func53, Try.ntmps53
    go_wp2_with fail
    go_ret
    exact ⟨rfl, by go_grown⟩
  rw [if_neg h2]
  have h2' : (t.toList == []) = false := by
    rw [ByteArray.toList_eq, beq_eq_false_iff_ne]
    intro e
    exact h2 (by have := congrArg List.length e; simpa using this)
  by_cases h3 : 65536 < t.size
  · have h3' : (65536 : Int) < (t.size : Int) := by omega
    rw [if_pos h3]
    go_enter Try.func53, Try.ntmps53
    go_wp2_with fail
    go_ret
    exact ⟨rfl, by go_grown⟩
  have h3' : ¬ (65536 : Int) < (t.size : Int) := by omega
  rw [if_neg h3]
  by_cases h4 : 2048 ≤ l.length
  · have h4' : (2048 : Int) ≤ (l.length : Int) := by omega
    cases b with
    | true =>
      rw [if_neg (by simp)]
      go_enter Try.func53, Try.ntmps53
      go_wp2_with fail
      go_ret
      exact ⟨rfl, by go_grown⟩
    | false =>
      rw [if_pos (by simpa using h4)]
      go_enter Try.func53, Try.ntmps53
      go_wp2_with fail
      go_ret
      exact ⟨rfl, by go_grown⟩
  · have h4' : ¬ (2048 : Int) ≤ (l.length : Int) := by omega
    rw [if_neg (by simp; intro _; omega)]
    go_enter Try.func53, Try.ntmps53
    go_wp2_with fail
    go_ret
    exact ⟨rfl, by go_grown⟩
set_option maxHeartbeats 1000000 in
theorem get_anyC (s : Value) (l : List It) (id : Nat) (w : World) (h : ChS w s l) (hid : id < 18446744073709551616) :
    Calls Try.prog 28 #[.agg #[s], .int .u64 id] w fun e w' => e = .returned (.tuple #[.string (getT (getI id l)), .bool (getI id l).isSome]) ∧ Below w.heap.size w w' := by
  have HP := Lib.hid (fun W (hb : Below w.heap.size w W) => place_any s l id W (h.below hb))
  have HI := Lib.hid (isC (id := id) h.good.rise)
  have HG := Lib.hid (fun t => getC (id := id) h.good.rise t)
  obtain ⟨al, cap, rfl, hcap, hmx, hc⟩ := h.its
  have hfew := h.good.few
  have HC := Lib.hid hc
  clear hc h
  obtain ⟨b, hb⟩ : ∃ b, (getI id l).isSome = b := ⟨_, rfl⟩
  cases b with
  | false =>
    have hn : getT (getI id l) = { data := #[] } := by
      cases hg : getI id l with
      | none => rfl
      | some x => rw [hg] at hb; cases hb
    rw [hn]
    rw [hb] at HP ⊢
    generalize loC id l = i at *
    clear hb hn HI HG HC
    go_enter Try.func28, Try.ntmps28
    go_wp2_with fail
    refine (HP.out _ (by go_grown)).mono ?_
    rintro e w1 ⟨rfl, hb⟩
    have H1 := Lib.hid (((Below.refl w.heap.size w).alloc (Nat.le_refl _) _).trans (hb.mono (by simp)))
    clear hb
    go_wp2_with fail
    go_ret2
    exact ⟨rfl, H1.out⟩
  | true =>
    rw [hb] at HI HP ⊢
    obtain ⟨t, ht, he⟩ := of_decide_eq_true HI.out.symm
    have hn : getT (getI id l) = t.2 := by rw [HG.out t ht he]; rfl
    rw [hn]
    have hi := (List.getElem?_eq_some_iff.1 ht).1
    obtain ⟨g, off, rfl, hg, l0, l1⟩ := HC.out _ t ht
    generalize loC id l = i at *
    have hi2 : (i : Int) < (l.length : Int) := by omega
    clear hb hn HI HG ht he
    go_enter Try.func28, Try.ntmps28
    go_wp2_with fail
    refine (HP.out _ (by go_grown)).mono ?_
    rintro e w1 ⟨rfl, hb⟩
    have hB : Below w.heap.size w w1 := (((Below.refl w.heap.size w).alloc (Nat.le_refl _) _).trans (hb.mono (by simp)))
    have k1 := (hB.cell (p := ⟨g, off + i * 2 + 1, none⟩) hg).trans l1
    have kb : w1.cell? ⟨w.heap.size, 0, none⟩ = some (.slice (some ⟨g, off, none⟩) l.length cap) := vcell_later hb (by simp [go_sem])
    have H1 := Lib.hid hB
    clear hb hB l0 l1
    go_wp2_with fail
    go_ret2
    exact ⟨rfl, H1.out⟩
theorem len_anyC (s : Value) (l : List It) (w : World) (h : ChS w s l) :
    Calls Try.prog 25 #[.agg #[s]] w fun e w' => e = .returned (.int .i64 l.length) ∧ Below w.heap.size w w' := by
  obtain ⟨al, cap, rfl, hcap, hmx, hc⟩ := h.its
  clear h hc
  unfold maxLen at hmx
  go_enter Try.func25, Try.ntmps25
  go_wp2_with fail
  go_ret
  exact ⟨rfl, by go_grown⟩
end Go.Proofs.Ytleicghfcffblaa
