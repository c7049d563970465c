/- slices.BinarySearchFunc with 'against'; place. -/
import Derived.Test.YtmmjdlpoiibhaaaHa
namespace Go.Proofs.Ytmmjdlpoiibhaaa
open Go.RowKit
set_option maxRecDepth 20000
set_option linter.unusedVariables false
set_option linter.unusedSimpArgs false
set_option maxHeartbeats 1000000 in
theorem bin_any (v : Value) (l : List It) (id : Nat) (w : World) (hr : Rise l) (hv : ItsAt w v l) (hl : l.length ≤ 100000) : Calls Try.prog 46 #[v, .int .u64 id, .func (.func 47) #[] #[]] w fun x w' => x = .returned (.tuple #[.int .i64 (loC id l : Nat), .bool (getI id l).isSome]) ∧ Below w.heap.size w w' := by
  have HF := Lib.hid (fun t W => against_any t id W)
  have hle := loC_le id l
  obtain ⟨al, cap, rfl, hcap, hmx, hc⟩ := hv
  have HC := Lib.hid hc
  have HP := Lib.hid (fun d t h => high_at (id := id) hr d t h)
  have HL : Hid ((getI id l).isSome = decide (∃ t, l[loC id l]? = some t ∧ t.1 = id)) := Lib.hid (isC hr)
  generalize (getI id l).isSome = il at *
  obtain ⟨r, hr⟩ : ∃ r, loC id l = r := ⟨_, rfl⟩
  rw [hr] at HP HL hle ⊢
  clear hc hr
  go_enter Try.func46, Try.ntmps46
  go_wp2_with fail
  go_loopw [9, 10] (fun x y wr => ∃ a b : Nat, a ≤ r ∧ r ≤ b ∧ b ≤ l.length ∧ x = .int .i64 a ∧ y = .int .i64 b ∧ Below w.heap.size w wr) (fun x y _ => (intOf y).toNat - (intOf x).toNat)
  case atStart => exact ⟨0, l.length, Nat.zero_le _, by omega, Nat.le_refl _, rfl, rfl, Below.refl _ _⟩
  case round =>
    obtain ⟨a, b, h1, h2, h3, rfl, rfl, hbw⟩ := hrel
    by_cases hlt : a < b
    · obtain ⟨d, hd0⟩ : ∃ d : Nat, d = (a + b) / 2 := ⟨_, rfl⟩
      have hm1 : a ≤ d := by omega
      have hm2 : d < b := by omega
      obtain ⟨e, he⟩ : ∃ t, l[d]? = some t := ⟨_, List.getElem?_eq_getElem (by omega)⟩
      obtain ⟨g, off, rfl, hg, l0, l1⟩ := HC.out d e he
      have k0 := (hbw.cell (p := ⟨g, off + d * 2, none⟩) hg).trans l0
      have k1 := (hbw.cell (p := ⟨g, off + d * 2 + 1, none⟩) hg).trans l1
      have hi0 : (a : Int) < (b : Int) := by omega
      have hi2 : (d : Int) < (l.length : Int) := by omega
      have hw1 : IntKind.i64.wrap ((a : Int) + (b : Int)) = ((a + b : Nat) : Int) := by rw [IntKind.wrap_i64] <;> omega
      have hw2 : IntKind.u64.wrap ((a : Int) + (b : Int)) = ((a + b : Nat) : Int) := by rw [IntKind.wrap_u64]; omega
      have hP := HP.out d e he
      have HE := Lib.hid (HF.out e)
      have HLT := Lib.hid (cmpI_lt (e.1 : Nat) (id : Int))
      clear he l0 l1
      subst hd0
      have hi2' : ((a : Int) + (b : Int)) / 2 < (l.length : Int) := by omega
      by_cases hq : e.1 < id
      · have hd : decide (cmpI (e.1 : Int) (id : Int) < 0) = true := by rw [HLT.out]; simpa using hq
        have hq' : (a + b) / 2 + 1 ≤ r := by have := hP.1 hq; omega
        clear hq hP
        go_wp2_with fail
        refine (HE.out _).mono ?_
        rintro x w1 ⟨rfl, hb⟩
        have HB := Lib.hid (hbw.trans (hb.mono hbw.size))
        clear hb hbw k0 k1
        go_wp2_with fail
        go_roundw
        case rel => exact ⟨(a + b) / 2 + 1, b, hq', h2, h3, by go_num, rfl, HB.out⟩
        case measure => simp [intOf]; omega
      · have hd : decide (cmpI (e.1 : Int) (id : Int) < 0) = false := by rw [HLT.out]; simpa using hq
        have hq' : r ≤ (a + b) / 2 := by
          rcases Nat.lt_or_ge ((a + b) / 2) r with h | h
          · exact absurd (hP.2 h) hq
          · exact h
        clear hq hP
        go_wp2_with fail
        refine (HE.out _).mono ?_
        rintro x w1 ⟨rfl, hb⟩
        have HB := Lib.hid (hbw.trans (hb.mono hbw.size))
        clear hb hbw k0 k1
        go_wp2_with fail
        go_roundw
        case rel => exact ⟨a, (a + b) / 2, h1, hq', by omega, rfl, by go_num, HB.out⟩
        case measure => simp [intOf]; omega
    · obtain rfl : a = r := by omega
      have hlt' : ¬ (a : Int) < (b : Int) := by omega
      have HBW := Lib.hid hbw
      by_cases hal : a < l.length
      · obtain ⟨e, he⟩ : ∃ t, l[a]? = some t := ⟨_, List.getElem?_eq_getElem hal⟩
        obtain ⟨g, off, rfl, hg, l0, l1⟩ := HC.out a e he
        have k0 := (hbw.cell (p := ⟨g, off + a * 2, none⟩) hg).trans l0
        have k1 := (hbw.cell (p := ⟨g, off + a * 2 + 1, none⟩) hg).trans l1
        have hi2 : (a : Int) < (l.length : Int) := by omega
        have HE := Lib.hid (HF.out e)
        have hil : il = decide ((e.1 : Int) = (id : Int)) := by
          rw [HL.out]
          apply decide_eq_decide.2
          constructor
          · rintro ⟨t, ht, h⟩
            rw [he] at ht
            cases ht
            omega
          · intro h
            exact ⟨e, he, by omega⟩
        have HIL := Lib.hid (hil.trans (cmpI_eq _ _).symm)
        clear he l0 l1 hil hbw
        go_wp2_with fail
        refine (HE.out _).mono ?_
        rintro x w1 ⟨rfl, hb⟩
        have HB := Lib.hid (HBW.out.trans (hb.mono HBW.out.size))
        clear hb k0 k1
        go_wp2_with fail
        go_ret2
        refine ⟨?_, HB.out⟩
        rw [HIL.out]
        first | rfl | simp
      · have hil : il = false := by
          rw [HL.out, decide_eq_false_iff_not]
          rintro ⟨t, ht, _⟩
          exact hal (List.getElem?_eq_some_iff.1 ht).1
        obtain rfl : a = l.length := by omega
        subst hil
        have hi2 : ¬ (l.length : Int) < (l.length : Int) := by omega
        clear hbw
        go_wp2_with fail
        go_ret2
        exact ⟨rfl, HBW.out⟩
structure ChS (w : World) (s : Value) (l : List It) : Prop where
  its : ItsAt w s l
  good : GoodC l
theorem ChS.below {w w' : World} {s : Value} {l : List It} (h : ChS w s l) (hb : Below w.heap.size w w') : ChS w' s l := ⟨h.its.below hb, h.good⟩
theorem ChS.form {w : World} {s : Value} {l : List It} (h : ChS w s l) : ∃ a n c, s = .slice a n c := by
  obtain ⟨a, c, e, _⟩ := h.its
  exact ⟨_, _, _, e⟩
theorem chS_nil (w : World) : ChS w (.slice none 0 0) [] := ⟨its_nil w, goodC_nil⟩
theorem place_any (s : Value) (l : List It) (id : Nat) (w : World) (h : ChS w s l) : Calls Try.prog 30 #[.agg #[s], .int .u64 id] w fun e w' => e = .returned (.tuple #[.int .i64 (loC id l : Nat), .bool (getI id l).isSome]) ∧ Below w.heap.size w w' := by
  have HB := Lib.hid (fun W (hb : Below w.heap.size w W) => bin_any s l id W h.good.rise (h.its.below hb) (by have := h.good.few; omega))
  obtain ⟨a, n, c, rfl⟩ := h.form
  clear h
  go_enter Try.func30, Try.ntmps30
  go_wp2_with fail
  refine (HB.out _ (by go_grown)).mono ?_
  rintro e w1 ⟨rfl, hb⟩
  have H1 := Lib.hid (((Below.refl w.heap.size w).alloc (Nat.le_refl _) _).trans (hb.mono (by simp)))
  clear hb
  go_wp2_with fail
  go_ret2
  exact ⟨rfl, H1.out⟩
end Go.Proofs.Ytmmjdlpoiibhaaa
