/- Contracts of the program's isEmpty, of slices.IndexFunc and ContainsFunc with the functions that the program hands them, of In, Total and Has. -/
import Derived.Test.YthlekifagidijaaDoorRl
import Derived.Test.YthlekifagidijaaDoorRw5
import Derived.Test.YthlekifagidijaaDoorPb
namespace Go.Proofs.YthlekifagidijaaDoor
open Go.RowKit
set_option linter.unusedVariables false
set_option linter.unusedSimpArgs false
theorem empty_any (p q : Int) (w : World) : Calls Tryd.prog 39 #[.agg #[.int .u64 p, .int .u64 q]] w fun e w' => e = .returned (.bool (decide (q < p))) ∧ Below w.heap.size w w' := by
  go_enter Tryd.func39, Tryd.ntmps39
  go_wp2_with fail
  go_ret
  exact ⟨rfl, by go_grown⟩
def memS (d : Int) (s : Int × Int) : Bool := decide (s.1 ≤ d) && decide (d ≤ s.2)
theorem in1_any (p q d : Int) (b : Nat) (w : World) (hb : b < w.heap.size) (hc : w.cell? ⟨b, 0, none⟩ = some (.int .u64 d)) : Calls Tryd.prog 44 #[.agg #[.int .u64 p, .int .u64 q], .pointer (some ⟨b, 0, none⟩)] w fun e w' => e = .returned (.bool (memS d (p, q))) ∧ Below w.heap.size w w' := by
  have hne : b ≠ w.heap.size := by omega
  unfold memS
  dsimp only
  by_cases g : p ≤ d
  · rw [decide_eq_true g, Bool.true_and]
    go_enter Tryd.func44, Tryd.ntmps44
    go_wp2_with fail
    go_ret
    exact ⟨rfl, by go_grown⟩
  · rw [decide_eq_false g, Bool.false_and]
    have g2 : decide (p ≤ d) = false := decide_eq_false g
    go_enter Tryd.func44, Tryd.ntmps44
    go_wp2_with fail
    go_ret
    exact ⟨rfl, by go_grown⟩
/-- The first place at which it holds, or -1. -/
def IdxEnd (p : Int × Int → Bool) (l : List (Int × Int)) (w : World) (e : Ending) (w' : World) : Prop := ∃ r : Int, e = .returned (.int .i64 r) ∧ ((r = -1 ∧ ∀ s ∈ l, p s = false) ∨ ∃ i : Nat, r = i ∧ i < l.length ∧ (∀ s ∈ l.take i, p s = false) ∧ ∃ s, l[i]? = some s ∧ p s = true) ∧ Below w.heap.size w w'
set_option maxHeartbeats 1000000 in
theorem idx_empty (v : Value) (l : List (Int × Int)) (w : World) (hv : SpansAt w v l) (hl : l.length ≤ 100000) : Calls Tryd.prog 55 #[v, .func (.func 39) #[] #[]] w (IdxEnd (fun s => decide (s.2 < s.1)) l w) := by
  obtain ⟨a, cap, rfl, h1, h2, hc⟩ := hv
  have HC := Lib.hid hc
  clear hc
  go_enter Tryd.func55, Tryd.ntmps55
  go_wp2_with fail
  go_loopw [8] (fun s wr => ∃ i : Nat, i ≤ l.length ∧ s = .int .i64 i ∧ Hid (∀ t ∈ l.take i, (fun s => decide (s.2 < s.1)) t = false) ∧ Below w.heap.size w wr) (fun s _ => l.length - (intOf s).toNat)
  case atStart => exact ⟨0, Nat.zero_le _, rfl, Lib.hid (fun t ht => by simp at ht), Below.refl _ _⟩
  case round =>
    obtain ⟨i, hi, rfl, HM, hbw⟩ := hrel
    by_cases hlt : i < l.length
    · obtain ⟨t, ht⟩ : ∃ t, l[i]? = some t := ⟨_, List.getElem?_eq_getElem hlt⟩
      obtain ⟨g, off, rfl, hg, l0, l1⟩ := HC.out i t ht
      replace l0 := scell_later hbw l0
      replace l1 := scell_later hbw l1
      have hi2 : (i : Int) < (l.length : Int) := by omega
      have HT := Lib.hid ht
      have HE := Lib.hid (empty_any t.1 t.2 wr)
      have HTK : Hid (l.take (i + 1) = l.take i ++ [t]) := Lib.hid (by rw [List.take_add_one, ht]; rfl)
      clear ht
      obtain ⟨p, q⟩ := t
      dsimp only at l0 l1 HE
      by_cases hp : (fun s => decide (s.2 < s.1)) (p, q) = true
      · have HP := Lib.hid hp
        rw [show decide (q < p) = true from hp] at HE
        clear hp
        go_wp2_with fail
        refine HE.out.mono ?_
        rintro e w1 ⟨rfl, hb⟩
        have hbw1 := hbw.trans (hb.mono hbw.size)
        clear hb hbw l0 l1 HE
        go_wp2_with fail
        go_ret
        exact ⟨i, rfl, .inr ⟨i, rfl, hlt, HM.out, _, HT.out, HP.out⟩, hbw1⟩
      · replace hp : (fun s => decide (s.2 < s.1)) (p, q) = false := by simpa using hp
        have HP := Lib.hid hp
        rw [show decide (q < p) = false from hp] at HE
        clear hp
        go_wp2_with fail
        refine HE.out.mono ?_
        rintro e w1 ⟨rfl, hb⟩
        have hbw1 := hbw.trans (hb.mono hbw.size)
        clear hb hbw l0 l1 HE
        go_wp2_with fail
        go_roundw
        case rel =>
          refine ⟨i + 1, by omega, by go_num, Lib.hid (fun t ht => ?_), hbw1⟩
          rw [HTK.out] at ht
          rcases List.mem_append.1 ht with ht | ht
          · exact HM.out t ht
          · rw [List.mem_singleton] at ht; rw [ht]; exact HP.out
        case measure => simp [intOf]; omega
    · obtain rfl : i = l.length := by omega
      rw [List.take_length] at HM
      go_wp2_with fail
      go_ret
      exact ⟨-1, rfl, .inl ⟨rfl, HM.out⟩, hbw⟩
set_option maxHeartbeats 1000000 in
theorem idx_in (v : Value) (l : List (Int × Int)) (d : Int) (b : Nat) (w : World) (hv : SpansAt w v l) (hl : l.length ≤ 100000) (hb : b < w.heap.size) (hcb : w.cell? ⟨b, 0, none⟩ = some (.int .u64 d)) : Calls Tryd.prog 55 #[v, .func (.func 44) #[] #[.pointer (some ⟨b, 0, none⟩)]] w (IdxEnd (memS d) l w) := by
  obtain ⟨a, cap, rfl, h1, h2, hc⟩ := hv
  have HC := Lib.hid hc
  clear hc
  go_enter Tryd.func55, Tryd.ntmps55
  go_wp2_with fail
  go_loopw [8] (fun s wr => ∃ i : Nat, i ≤ l.length ∧ s = .int .i64 i ∧ Hid (∀ t ∈ l.take i, (memS d) t = false) ∧ Below w.heap.size w wr) (fun s _ => l.length - (intOf s).toNat)
  case atStart => exact ⟨0, Nat.zero_le _, rfl, Lib.hid (fun t ht => by simp at ht), Below.refl _ _⟩
  case round =>
    obtain ⟨i, hi, rfl, HM, hbw⟩ := hrel
    by_cases hlt : i < l.length
    · obtain ⟨t, ht⟩ : ∃ t, l[i]? = some t := ⟨_, List.getElem?_eq_getElem hlt⟩
      obtain ⟨g, off, rfl, hg, l0, l1⟩ := HC.out i t ht
      replace l0 := scell_later hbw l0
      replace l1 := scell_later hbw l1
      have hi2 : (i : Int) < (l.length : Int) := by omega
      have HT := Lib.hid ht
      have HE := Lib.hid (in1_any t.1 t.2 d b wr (Nat.lt_of_lt_of_le hb hbw.size) (scell_later hbw hcb))
      have HTK : Hid (l.take (i + 1) = l.take i ++ [t]) := Lib.hid (by rw [List.take_add_one, ht]; rfl)
      clear ht
      obtain ⟨p, q⟩ := t
      dsimp only at l0 l1 HE
      by_cases hp : (memS d) (p, q) = true
      · have HP := Lib.hid hp
        rw [show memS d (p, q) = true from hp] at HE
        clear hp
        go_wp2_with fail
        refine HE.out.mono ?_
        rintro e w1 ⟨rfl, hb⟩
        have hbw1 := hbw.trans (hb.mono hbw.size)
        clear hb hbw l0 l1 HE
        go_wp2_with fail
        go_ret
        exact ⟨i, rfl, .inr ⟨i, rfl, hlt, HM.out, _, HT.out, HP.out⟩, hbw1⟩
      · replace hp : (memS d) (p, q) = false := by simpa using hp
        have HP := Lib.hid hp
        rw [show memS d (p, q) = false from hp] at HE
        clear hp
        go_wp2_with fail
        refine HE.out.mono ?_
        rintro e w1 ⟨rfl, hb⟩
        have hbw1 := hbw.trans (hb.mono hbw.size)
        clear hb hbw l0 l1 HE
        go_wp2_with fail
        go_roundw
        case rel =>
          refine ⟨i + 1, by omega, by go_num, Lib.hid (fun t ht => ?_), hbw1⟩
          rw [HTK.out] at ht
          rcases List.mem_append.1 ht with ht | ht
          · exact HM.out t ht
          · rw [List.mem_singleton] at ht; rw [ht]; exact HP.out
        case measure => simp [intOf]; omega
    · obtain rfl : i = l.length := by omega
      rw [List.take_length] at HM
      go_wp2_with fail
      go_ret
      exact ⟨-1, rfl, .inl ⟨rfl, HM.out⟩, hbw⟩
theorem any_of_idx (l : List (Int × Int)) (d : Int) (r : Int) (h : (r = -1 ∧ ∀ s ∈ l, memS d s = false) ∨ ∃ i : Nat, r = i ∧ i < l.length ∧ (∀ s ∈ l.take i, memS d s = false) ∧ ∃ s, l[i]? = some s ∧ memS d s = true) : memB l d = decide (0 ≤ r) := by
  rcases h with ⟨rfl, h⟩ | ⟨i, rfl, hi, _, s, hs, hp⟩
  · rw [show decide ((0 : Int) ≤ -1) = false from by decide]
    unfold memB
    rw [List.any_eq_false]
    intro s hs
    have := h s hs
    unfold memS at this
    simp only [this, Bool.false_eq_true, not_false_eq_true]
  · rw [decide_eq_true (by omega)]
    unfold memB
    rw [List.any_eq_true]
    exact ⟨s, List.mem_of_getElem? hs, hp⟩
theorem contains_any (v : Value) (l : List (Int × Int)) (d : Int) (b : Nat) (w : World) (hv : SpansAt w v l) (hl : l.length ≤ 100000) (hb : b < w.heap.size) (hcb : w.cell? ⟨b, 0, none⟩ = some (.int .u64 d)) : Calls Tryd.prog 43 #[v, .func (.func 44) #[] #[.pointer (some ⟨b, 0, none⟩)]] w fun e w' => e = .returned (.bool (memB l d)) ∧ Below w.heap.size w w' := by
  have H := Lib.hid (idx_in v l d b w hv hl hb hcb)
  have HA := Lib.hid (any_of_idx l d)
  obtain ⟨a, cap, rfl, _⟩ := hv
  go_enter Tryd.func43, Tryd.ntmps43
  go_wp2_with fail
  refine H.out.mono ?_
  rintro e w1 ⟨r, rfl, hr, hb1⟩
  have hm := HA.out r hr
  clear hr
  go_wp2_with fail
  go_ret
  exact ⟨by rw [hm]; rfl, hb1⟩
theorem in_any (v : Value) (l : List (Int × Int)) (d : Int) (w : World) (hv : SpansAt w v l) (hl : l.length ≤ 100000) : Calls Tryd.prog 22 #[v, .int .u64 d] w fun e w' => e = .returned (.bool (memB l d)) ∧ Below w.heap.size w w' := by
  have H := Lib.hid (contains_any v l d w.heap.size (w.alloc (.cells #[.int .u64 d] 44)) (hv.below ((Below.refl _ _).alloc (Nat.le_refl _) _)) hl (by simp) (by simp [go_sem]))
  obtain ⟨a, cap, rfl, _⟩ := hv
  go_enter Tryd.func22, Tryd.ntmps22
  go_wp2_with fail
  refine H.out.mono ?_
  rintro e w1 ⟨rfl, hb⟩
  have hb1 : Below w.heap.size w w1 := Below.trans (by go_grown) (hb.mono (by simp))
  clear hb
  go_wp2_with fail
  go_ret
  exact ⟨rfl, hb1⟩
end Go.Proofs.YthlekifagidijaaDoor
