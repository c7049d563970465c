/- slices.BinarySearchFunc with 'against'; Get. -/
import Derived.Test.YtegboojhebhlnaaGe
namespace Go.Proofs.Ytegboojhebhlnaa
open Go.RowKit
set_option linter.unusedVariables false
set_option linter.unusedSimpArgs false
theorem cmpI_lt (x y : Int) : decide (cmpI x y < 0) = decide (x < y) := by
  unfold cmpI
  by_cases h : x < y
  · simp [h]
  · by_cases h2 : x > y <;> simp [h, h2]
theorem cmpI_eq (x y : Int) : decide (cmpI x y = 0) = decide (x = y) := by
  unfold cmpI
  by_cases h : x < y
  · simp [h]; omega
  · by_cases h2 : x > y
    · simp [h, h2]; omega
    · simp [h, h2]; omega
/-- Whether a content stands at just this place. -/
def isLo (q : Int) (l : List ByteArray) : Bool := decide (loG q l 0 < l.length ∧ ((totF (l.take (loG q l 0)) : Nat) : Int) = q)
set_option maxRecDepth 20000 in
set_option maxHeartbeats 1000000 in
theorem bin_any (v : Value) (l : List ByteArray) (q : Int) (w : World) (hv : KtsAt w v (plc l 0)) (hl : l.length ≤ 100000) : Calls Try.prog 25 #[v, .int .u64 q, .func (.func 26) #[] #[]] w fun x w' => x = .returned (.tuple #[.int .i64 (loG q l 0 : Nat), .bool (isLo q l)]) ∧ Below w.heap.size w w' := by
  have HF := Lib.hid (fun t W => against_any t q W)
  have hspec := loG_spec q l 0
  have hle := loG_le q l 0
  simp only [Nat.zero_add] at hspec
  obtain ⟨al, cap, rfl, hcap, hmx, hc⟩ := hv
  rw [plc_len] at *
  have HC := Lib.hid (fun k t (h : l[k]? = some t) => hc k _ (plc_at l 0 k t h))
  simp only [Nat.zero_add] at HC
  have HP := Lib.hid hspec
  have HL : Hid (isLo q l = decide (loG q l 0 < l.length ∧ ((totF (l.take (loG q l 0)) : Nat) : Int) = q)) := Lib.hid rfl
  generalize isLo q l = il at *
  obtain ⟨r, hr⟩ : ∃ r, loG q l 0 = r := ⟨_, rfl⟩
  rw [hr] at HP HL hle ⊢
  clear hc hspec hr
  go_enter Try.func25, Try.ntmps25
  go_wp2_with fail
  go_loopw [9, 10] (fun x y wr => ∃ a b : Nat, a ≤ r ∧ r ≤ b ∧ b ≤ l.length ∧ x = .int .i64 a ∧ y = .int .i64 b ∧ Below w.heap.size w wr) (fun x y _ => (intOf y).toNat - (intOf x).toNat)
  case atStart => exact ⟨0, l.length, Nat.zero_le _, by omega, Nat.le_refl _, rfl, rfl, Below.refl _ _⟩
  case round =>
    obtain ⟨a, b, h1, h2, h3, rfl, rfl, hbw⟩ := hrel
    by_cases hlt : a < b
    · obtain ⟨d, hd0⟩ : ∃ d : Nat, d = (a + b) / 2 := ⟨_, rfl⟩
      have hm1 : a ≤ d := by omega
      have hm2 : d < b := by omega
      obtain ⟨e, he⟩ : ∃ t, l[d]? = some t := ⟨_, List.getElem?_eq_getElem (by omega)⟩
      obtain ⟨g, off, rfl, hg, l0, l1, l2⟩ := HC.out d e he
      have k0 := (hbw.cell (p := ⟨g, off + d * 3, none⟩) hg).trans l0
      have k1 := (hbw.cell (p := ⟨g, off + d * 3 + 1, none⟩) hg).trans l1
      have k2 := (hbw.cell (p := ⟨g, off + d * 3 + 2, none⟩) hg).trans l2
      have hi0 : (a : Int) < (b : Int) := by omega
      have hi2 : (d : Int) < (l.length : Int) := by omega
      have hw1 : IntKind.i64.wrap ((a : Int) + (b : Int)) = ((a + b : Nat) : Int) := by rw [IntKind.wrap_i64] <;> omega
      have hw2 : IntKind.u64.wrap ((a : Int) + (b : Int)) = ((a + b : Nat) : Int) := by rw [IntKind.wrap_u64]; omega
      have hP := HP.out d (by omega)
      have HE := Lib.hid (HF.out (totF (l.take d), e))
      have HLT := Lib.hid (cmpI_lt (totF (l.take d) : Nat) q)
      clear he l0 l1 l2
      subst hd0
      have hi2' : ((a : Int) + (b : Int)) / 2 < (l.length : Int) := by omega
      by_cases hq : ((totF (l.take ((a + b) / 2)) : Nat) : Int) < q
      · have hd : decide (cmpI ((totF (l.take ((a + b) / 2)) : Nat) : Int) q < 0) = true := by rw [HLT.out]; simpa using hq
        have hq' : (a + b) / 2 + 1 ≤ r := by have := hP.1 hq; omega
        clear hq hP
        go_wp2_with fail
        refine (HE.out _).mono ?_
        rintro x w1 ⟨rfl, hb⟩
        have HB := Lib.hid (hbw.trans (hb.mono hbw.size))
        clear hb hbw k0 k1 k2
        go_wp2_with fail
        go_roundw
        case rel => exact ⟨(a + b) / 2 + 1, b, hq', h2, h3, by go_num, rfl, HB.out⟩
        case measure => simp [intOf]; omega
      · have hd : decide (cmpI ((totF (l.take ((a + b) / 2)) : Nat) : Int) q < 0) = false := by rw [HLT.out]; simpa using hq
        have hq' : r ≤ (a + b) / 2 := by
          rcases Nat.lt_or_ge ((a + b) / 2) r with h | h
          · exact absurd (hP.2 h) hq
          · exact h
        clear hq hP
        go_wp2_with fail
        refine (HE.out _).mono ?_
        rintro x w1 ⟨rfl, hb⟩
        have HB := Lib.hid (hbw.trans (hb.mono hbw.size))
        clear hb hbw k0 k1 k2
        go_wp2_with fail
        go_roundw
        case rel => exact ⟨a, (a + b) / 2, h1, hq', by omega, rfl, by go_num, HB.out⟩
        case measure => simp [intOf]; omega
    · obtain rfl : a = r := by omega
      have hlt' : ¬ (a : Int) < (b : Int) := by omega
      have HBW := Lib.hid hbw
      by_cases hal : a < l.length
      · obtain ⟨e, he⟩ : ∃ t, l[a]? = some t := ⟨_, List.getElem?_eq_getElem hal⟩
        obtain ⟨g, off, rfl, hg, l0, l1, l2⟩ := HC.out a e he
        have k0 := (hbw.cell (p := ⟨g, off + a * 3, none⟩) hg).trans l0
        have k1 := (hbw.cell (p := ⟨g, off + a * 3 + 1, none⟩) hg).trans l1
        have k2 := (hbw.cell (p := ⟨g, off + a * 3 + 2, none⟩) hg).trans l2
        have hi2 : (a : Int) < (l.length : Int) := by omega
        have HE := Lib.hid (HF.out (totF (l.take a), e))
        have hil : il = decide (((totF (l.take a) : Nat) : Int) = q) := by rw [HL.out]; simp [hal]
        have HIL := Lib.hid (hil.trans (cmpI_eq _ _).symm)
        clear he l0 l1 l2 hil hbw
        go_wp2_with fail
        refine (HE.out _).mono ?_
        rintro x w1 ⟨rfl, hb⟩
        have HB := Lib.hid (HBW.out.trans (hb.mono HBW.out.size))
        clear hb k0 k1 k2
        go_wp2_with fail
        go_ret2
        refine ⟨?_, HB.out⟩
        rw [HIL.out]
        first | rfl | simp
      · have hil : il = false := by rw [HL.out]; simp [hal]
        obtain rfl : a = l.length := by omega
        subst hil
        have hi2 : ¬ (l.length : Int) < (l.length : Int) := by omega
        clear hbw
        go_wp2_with fail
        go_ret2
        exact ⟨rfl, HBW.out⟩
end Go.Proofs.Ytegboojhebhlnaa
