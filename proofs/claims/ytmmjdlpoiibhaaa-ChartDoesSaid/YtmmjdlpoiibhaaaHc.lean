/- Contracts of the chart's check, Get, Len. -/
import Derived.Test.YtmmjdlpoiibhaaaHb
namespace Go.Proofs.Ytmmjdlpoiibhaaa
open Go.RowKit
set_option maxRecDepth 20000
set_option linter.unusedVariables false
set_option linter.unusedSimpArgs false
set_option maxHeartbeats 1000000 in
theorem check_any (s : Value) (l : List It) (id : Nat) (t : ByteArray) (w : World) (h : ChS w s l) (ht : t.size ≤ maxLen) :
    Calls Try.prog 31 #[.agg #[s], .agg #[.int .u64 id, .string t], .bool (getI id l).isSome] w fun e w' => e = .returned (.int .i64 (putE l id t : Nat)) ∧ Below w.heap.size w w' := by
  obtain ⟨al, cap, rfl, hcap, hmx, hc⟩ := h.its
  have hfew := h.good.few
  clear hc h
  unfold maxLen at hmx ht
  unfold putE
  obtain ⟨b, hb⟩ : ∃ b, (getI id l).isSome = b := ⟨_, rfl⟩
  have hb' : (getI id l).isNone = !b := by rw [← hb]; cases getI id l <;> rfl
  rw [hb, hb']
  clear hb hb'
  by_cases h1 : 6004799503160661 ≤ id
  · have h1' : (6004799503160661 : Int) ≤ (id : Int) := by omega
    rw [if_pos h1]
    go_enter Try.func31, Try.ntmps31
    go_wp2_with fail
    go_ret
    exact ⟨rfl, by go_grown⟩
  have h1' : ¬ (6004799503160661 : Int) ≤ (id : Int) := by omega
  rw [if_neg h1]
  by_cases h2 : t.size = 0
  · rw [if_pos h2]
    have h2' : (t.toList == []) = true := by
      have : t = { data := #[] } := ByteArray.ext (Array.eq_empty_of_size_eq_zero h2)
      rw [this, ByteArray.toList_eq]; rfl
    go_enter Try.func31, Try.ntmps31
    go_wp2_with fail
    go_ret
    exact ⟨rfl, by go_grown⟩
  rw [if_neg h2]
  have h2' : (t.toList == []) = false := by
    rw [ByteArray.toList_eq, beq_eq_false_iff_ne]
    intro e
    exact h2 (by have := congrArg List.length e; simpa using this)
  by_cases h3 : 65536 < t.size
  · have h3' : (65536 : Int) < (t.size : Int) := by omega
    rw [if_pos h3]
    go_enter Try.func31, Try.ntmps31
    go_wp2_with fail
    go_ret
    exact ⟨rfl, by go_grown⟩
  have h3' : ¬ (65536 : Int) < (t.size : Int) := by omega
  rw [if_neg h3]
  by_cases h4 : 2048 ≤ l.length
  · have h4' : (2048 : Int) ≤ (l.length : Int) := by omega
    cases b with
    | true =>
      rw [if_neg (by simp)]
      go_enter Try.func31, Try.ntmps31
      go_wp2_with fail
      go_ret
      exact ⟨rfl, by go_grown⟩
    | false =>
      rw [if_pos (by simpa using h4)]
      go_enter Try.func31, Try.ntmps31
      go_wp2_with fail
      go_ret
      exact ⟨rfl, by go_grown⟩
  · have h4' : ¬ (2048 : Int) ≤ (l.length : Int) := by omega
    rw [if_neg (by simp; intro _; omega)]
    go_enter Try.func31, Try.ntmps31
    go_wp2_with fail
    go_ret
    exact ⟨rfl, by go_grown⟩
set_option maxHeartbeats 1000000 in
theorem get_any (s : Value) (l : List It) (id : Nat) (w : World) (h : ChS w s l) (hid : id < 18446744073709551616) :
    Calls Try.prog 16 #[.agg #[s], .int .u64 id] w fun e w' => e = .returned (.tuple #[.string (getT (getI id l)), .bool (getI id l).isSome]) ∧ Below w.heap.size w w' := by
  have HP := Lib.hid (fun W (hb : Below w.heap.size w W) => place_any s l id W (h.below hb))
  have HI := Lib.hid (isC (id := id) h.good.rise)
  have HG := Lib.hid (fun t => getC (id := id) h.good.rise t)
  obtain ⟨al, cap, rfl, hcap, hmx, hc⟩ := h.its
  have hfew := h.good.few
  have HC := Lib.hid hc
  clear hc h
  obtain ⟨b, hb⟩ : ∃ b, (getI id l).isSome = b := ⟨_, rfl⟩
  cases b with
  | false =>
    have hn : getT (getI id l) = { data := #[] } := by
      cases hg : getI id l with
      | none => rfl
      | some x => rw [hg] at hb; cases hb
    rw [hn]
    rw [hb] at HP ⊢
    generalize loC id l = i at *
    clear hb hn HI HG HC
    go_enter Try.func16, Try.ntmps16
    go_wp2_with fail
    refine (HP.out _ (by go_grown)).mono ?_
    rintro e w1 ⟨rfl, hb⟩
    have H1 := Lib.hid (((Below.refl w.heap.size w).alloc (Nat.le_refl _) _).trans (hb.mono (by simp)))
    clear hb
    go_wp2_with fail
    go_ret2
    exact ⟨rfl, H1.out⟩
  | true =>
    rw [hb] at HI HP ⊢
    obtain ⟨t, ht, he⟩ := of_decide_eq_true HI.out.symm
    have hn : getT (getI id l) = t.2 := by rw [HG.out t ht he]; rfl
    rw [hn]
    have hi := (List.getElem?_eq_some_iff.1 ht).1
    obtain ⟨g, off, rfl, hg, l0, l1⟩ := HC.out _ t ht
    generalize loC id l = i at *
    have hi2 : (i : Int) < (l.length : Int) := by omega
    clear hb hn HI HG ht he
    go_enter Try.func16, Try.ntmps16
    go_wp2_with fail
    refine (HP.out _ (by go_grown)).mono ?_
    rintro e w1 ⟨rfl, hb⟩
    have hB : Below w.heap.size w w1 := (((Below.refl w.heap.size w).alloc (Nat.le_refl _) _).trans (hb.mono (by simp)))
    have k1 := (hB.cell (p := ⟨g, off + i * 2 + 1, none⟩) hg).trans l1
    have kb : w1.cell? ⟨w.heap.size, 0, none⟩ = some (.slice (some ⟨g, off, none⟩) l.length cap) := vcell_later hb (by simp [go_sem])
    have H1 := Lib.hid hB
    clear hb hB l0 l1
    go_wp2_with fail
    go_ret2
    exact ⟨rfl, H1.out⟩
theorem len_any (s : Value) (l : List It) (w : World) (h : ChS w s l) :
    Calls Try.prog 20 #[.agg #[s]] w fun e w' => e = .returned (.int .i64 l.length) ∧ Below w.heap.size w w' := by
  obtain ⟨al, cap, rfl, hcap, hmx, hc⟩ := h.its
  clear h hc
  unfold maxLen at hmx
  go_enter Try.func20, Try.ntmps20
  go_wp2_with fail
  go_ret
  exact ⟨rfl, by go_grown⟩
end Go.Proofs.Ytmmjdlpoiibhaaa
