/- Contracts of the document's In, Total and Same over lists of intervals. -/
import Derived.Test.YthlekifagidijaaDoorRs
import Derived.Test.YthlekifagidijaaDoorCn
import Derived.Handy
import Derived.Deep.QuietTactic
import Derived.BigQuiet
namespace Go.Proofs.YthlekifagidijaaDoor
open Go.RowKit
set_option linter.unusedVariables false
set_option linter.unusedSimpArgs false
/-- Identifiers that a u64 may be. -/
def WideS (l : List (Int × Int)) : Prop := ∀ t ∈ l, 0 ≤ t.1 ∧ t.1 ≤ 18446744073709551615 ∧ 0 ≤ t.2 ∧ t.2 ≤ 18446744073709551615
theorem rin_any (v : Value) (l : List (Int × Int)) (d : Int) (w : World) (hv : SpansAt w v l) (hl : l.length ≤ 100000) : Calls Tryd.prog 23 #[v, .int .u64 d] w fun e w' => e = .returned (.bool (memB l d)) ∧ Below w.heap.size w w' := by
  obtain ⟨a, cap, rfl, h1, h2, hc⟩ := hv
  have HC := Lib.hid hc
  clear hc
  go_enter Tryd.func23, Tryd.ntmps23
  go_wp2_with fail
  go_loopw [5] (fun s wr => ∃ i : Nat, i ≤ l.length ∧ s = .int .i64 i ∧ Hid (memB l d = memB (l.drop i) d) ∧ Below w.heap.size w wr) (fun s _ => l.length - (intOf s).toNat)
  case atStart => exact ⟨0, Nat.zero_le _, rfl, Lib.hid rfl, Below.refl _ _⟩
  case round =>
    obtain ⟨i, hi, rfl, HM, hbw⟩ := hrel
    by_cases hlt : i < l.length
    · obtain ⟨t, ht⟩ : ∃ t, l[i]? = some t := ⟨_, List.getElem?_eq_getElem hlt⟩
      obtain ⟨g, off, rfl, hg, l0, l1⟩ := HC.out i t ht
      replace l0 := scell_later hbw l0
      replace l1 := scell_later hbw l1
      have hdr : l.drop i = t :: l.drop (i + 1) := by
        rw [List.drop_eq_getElem_cons hlt]
        congr 1
        have := List.getElem?_eq_getElem hlt
        rw [this] at ht
        exact Option.some.inj ht
      have hm : memB (l.drop i) d = ((decide (t.1 ≤ d) && decide (d ≤ t.2)) || memB (l.drop (i + 1)) d) := by rw [hdr]; rfl
      have HN := Lib.hid (HM.out.trans hm)
      have hi2 : (i : Int) < (l.length : Int) := by omega
      clear ht hdr hm HM
      obtain ⟨p, q⟩ := t
      dsimp only at l0 l1 HN
      by_cases g1 : p ≤ d
      · by_cases g2 : d ≤ q
        · go_wp2_with fail
          go_ret
          exact ⟨by rw [HN.out, decide_eq_true g1, decide_eq_true g2]; rfl, hbw⟩
        · have HN' : Hid (memB l d = memB (l.drop (i + 1)) d) := Lib.hid (by rw [HN.out, decide_eq_false g2, Bool.and_false, Bool.false_or])
          have g3 : decide (d ≤ q) = false := decide_eq_false g2
          go_wp2_with fail
          go_roundw
          case rel => exact ⟨i + 1, by omega, by go_num, HN', hbw⟩
          case measure => simp [intOf]; omega
      · have HN' : Hid (memB l d = memB (l.drop (i + 1)) d) := Lib.hid (by rw [HN.out, decide_eq_false g1, Bool.false_and, Bool.false_or])
        have g3 : decide (p ≤ d) = false := decide_eq_false g1
        go_wp2_with fail
        go_roundw
        case rel => exact ⟨i + 1, by omega, by go_num, HN', hbw⟩
        case measure => simp [intOf]; omega
    · obtain rfl : i = l.length := by omega
      go_wp2_with fail
      go_ret
      exact ⟨by rw [HM.out, List.drop_length]; rfl, hbw⟩
theorem rsame_yes (v1 v2 : Value) (l : List (Int × Int)) (w : World) (h1 : SpansAt w v1 l) (h2 : SpansAt w v2 l) (hl : l.length ≤ 100000) : Calls Tryd.prog 17 #[v1, v2] w fun e w' => e = .returned (.bool true) ∧ Below w.heap.size w w' := by
  obtain ⟨a, cap, rfl, _, _, hc⟩ := h1
  obtain ⟨a2, cap2, rfl, _, _, hc2⟩ := h2
  have HC := Lib.hid hc
  have HC2 := Lib.hid hc2
  clear hc hc2
  go_enter Tryd.func17, Tryd.ntmps17
  go_wp2_with fail
  go_loopw [5] (fun s wr => ∃ i : Nat, i ≤ l.length ∧ s = .int .i64 i ∧ Below w.heap.size w wr) (fun s _ => l.length - (intOf s).toNat)
  case atStart => exact ⟨0, Nat.zero_le _, rfl, Below.refl _ _⟩
  case round =>
    obtain ⟨i, hi, rfl, hbw⟩ := hrel
    by_cases hlt : i < l.length
    · obtain ⟨t, ht⟩ : ∃ t, l[i]? = some t := ⟨_, List.getElem?_eq_getElem hlt⟩
      obtain ⟨g, off, rfl, hg, l0, l1⟩ := HC.out i t ht
      obtain ⟨g2, off2, rfl, hg2, m0, m1⟩ := HC2.out i t ht
      replace l0 := scell_later hbw l0
      replace l1 := scell_later hbw l1
      replace m0 := scell_later hbw m0
      replace m1 := scell_later hbw m1
      have hi2 : (i : Int) < (l.length : Int) := by omega
      clear ht
      obtain ⟨p, q⟩ := t
      dsimp only at l0 l1 m0 m1
      go_wp2_with fail
      go_quiet (fail)
      go_wp2_with fail
      go_roundw
      case rel => exact ⟨i + 1, by omega, by go_num, hbw.trans ⟨rfl, rfl, rfl, Nat.le_refl _, fun _ _ => rfl⟩⟩
      case measure => simp [intOf]; omega
    · obtain rfl : i = l.length := by omega
      go_wp2_with fail
      go_ret
      exact ⟨rfl, hbw⟩
end Go.Proofs.YthlekifagidijaaDoor
