/- The document's Count, mark and Quote. -/
import Derived.Test.YtcpofeebfckmhaaJg
namespace Go.Proofs.Ytcpofeebfckmhaa
open Go.RowKit
set_option maxRecDepth 20000
set_option linter.unusedVariables false
set_option linter.unusedSimpArgs false
theorem count_fuel (f : Nat) (l : List Int) (h : l.length ≤ f) : countF f l = countP l := by
  by_cases hp : 0 ≤ countP l
  · obtain ⟨n, h1, h2⟩ := count_of hp
    rw [h2, val_count f l n h h1]
  · have h1 := count_no (l := l) (by omega)
    by_cases hf : 0 ≤ countF f l
    · obtain ⟨n, h2, h3⟩ := count_val f l hf
      rw [count_is h2] at h1
      omega
    · have := countF_ge f l
      omega
theorem count_nil : countP [] = 0 := rfl
theorem count_step {l : List Int} (hl : l ≠ []) : countP l = if runeP l = [] then -1 else if countP (l.drop (runeP l).length) < 0 then -1 else countP (l.drop (runeP l).length) + 1 := by
  cases l with
  | nil => exact absurd rfl hl
  | cons b t =>
    have e : countP (b :: t) = countF (t.length + 1) (b :: t) := rfl
    rw [e, countF, if_neg hl]
    by_cases hr : runeP (b :: t) = []
    · rw [if_pos hr, if_pos hr]
    · rw [if_neg hr, if_neg hr, count_fuel t.length _ (by have := List.length_pos_iff.2 hr; rw [List.length_drop, List.length_cons]; omega)]
/-- A count that goes on. -/
def addC (n : Nat) (c : Int) : Int := if c < 0 then -1 else n + c
theorem emp_yes {s : ByteArray} (h : s.size = 0) : (s.toList == []) = true := by
  have : s = ByteArray.empty := by
    apply ByteArray.ext
    apply Array.eq_empty_of_size_eq_zero
    exact h
  rw [this]; simp
theorem emp_no {s : ByteArray} (h : s.size ≠ 0) : (s.toList == []) = false := by
  rw [ByteArray.toList_eq, beq_eq_false_iff_ne]
  intro e
  exact h (by have := congrArg List.length e; simpa using this)
theorem ext_tail (s : ByteArray) (k : Nat) (hk : k ≤ s.size) : bI (s.extract k s.size) = (bI s).drop k := by
  rw [bI_extract _ _ _ hk, List.take_of_length_le (by rw [List.length_drop, bI_len]; omega)]
theorem rune_size (s : ByteArray) : (str (runeP (bI s))).size = (runeP (bI s)).length := str_size _
def sizeV : Value → Nat
  | .string s => s.size
  | _ => 0
set_option maxHeartbeats 2000000 in
theorem rcount_any (s : ByteArray) (w : World) (hs : s.size ≤ 1000000) : Calls Try.prog 10 #[.string s] w fun e w' => e = .returned (.int .i64 (countP (bI s))) ∧ Below w.heap.size w w' := by
  obtain ⟨T, hT⟩ : ∃ T, countP (bI s) = T := ⟨_, rfl⟩
  rw [hT]
  have H0 : Hid (T = addC 0 (countP (bI s))) := Lib.hid (by
    have h2 : -1 ≤ countP (bI s) := countF_ge (bI s).length (bI s)
    unfold addC
    rw [← hT]
    split <;> omega)
  clear hT
  go_enter Try.func10, Try.ntmps10
  go_wp2_with fail
  go_loopw [0, 3] (fun v i wr => ∃ (m : ByteArray) (n : Nat), v = .string m ∧ i = .int .i64 n ∧ n + m.size ≤ 1000000 ∧ Hid (T = addC n (countP (bI m))) ∧ Hid (Below w.heap.size w wr)) (fun v _ _ => sizeV v)
  case atStart => exact ⟨s, 0, rfl, rfl, by omega, H0, Lib.hid (Below.refl _ _)⟩
  case round =>
    obtain ⟨m, n, rfl, rfl, hmn, HT, HB⟩ := hrel
    by_cases hz : m.size = 0
    · have hm : bI m = [] := List.eq_nil_of_length_eq_zero (by rw [bI_len]; exact hz)
      have HE : Hid ((n : Int) = T) := Lib.hid (by have := HT.out; rw [hm, count_nil] at this; unfold addC at this; rw [if_neg (by omega)] at this; omega)
      have hz1 : (m.size : Int) = 0 := by omega
      clear HT hm
      go_wp2_with fail
      go_ret
      exact ⟨congrArg (fun x => Ending.returned (Value.int .i64 x)) HE.out, HB.out⟩
    · have hne : bI m ≠ [] := by intro e; have := bI_len m; rw [e] at this; simp at this; omega
      have hz2 : (0 : Int) < (m.size : Int) := by omega
      have HR := Lib.hid (rrune_any m)
      have hst := count_step hne
      obtain ⟨r, hr⟩ : ∃ r, runeP (bI m) = r := ⟨_, rfl⟩
      have hrl := (rune_len (bI m)).1
      have hrs := rune_size m
      rw [hr] at hst HR hrl hrs
      rw [bI_len] at hrl
      by_cases hr0 : r = []
      · subst hr0
        rw [if_pos rfl] at hst
        have HE : Hid (T = -1) := Lib.hid (by rw [HT.out, hst]; rfl)
        have hem : ((str []).toList == []) = true := emp_yes rfl
        clear HT hst hr hrs hrl
        go_wp2_with fail
        refine (HR.out _ (by omega)).mono ?_
        rintro e w1 ⟨rfl, hb1⟩
        have HB1 := Lib.hid (HB.out.trans (hb1.mono HB.out.size))
        clear hb1
        go_wp2_with fail
        go_ret
        exact ⟨congrArg (fun x => Ending.returned (Value.int .i64 x)) HE.out.symm, HB1.out⟩
      · rw [if_neg hr0] at hst
        have hrp := List.length_pos_iff.2 hr0
        have hem : ((str r).toList == []) = false := emp_no (by rw [hrs]; omega)
        have htl := ext_tail m r.length hrl
        have HE : Hid (T = addC (n + 1) (countP (bI (m.extract r.length m.size)))) := Lib.hid (by
          rw [HT.out, hst, htl]
          unfold addC
          by_cases hc : countP (List.drop r.length (bI m)) < 0
          · rw [if_pos hc, if_pos (by omega), if_pos hc]
          · rw [if_neg hc, if_neg (by omega), if_neg hc]; omega)
        have hsz : (m.extract r.length m.size).size = m.size - r.length := by rw [ByteArray.size_extract]; omega
        have HSZ := Lib.hid hsz
        have HRS := Lib.hid hrs
        have hk1 : ((str r).size : Int) ≤ (m.size : Int) := by rw [hrs]; omega
        clear HT hst hr htl hsz
        go_wp2_with fail
        refine (HR.out _ (by omega)).mono ?_
        rintro e w1 ⟨rfl, hb1⟩
        have HB1 := Lib.hid (HB.out.trans (hb1.mono HB.out.size))
        clear hb1
        go_wp2_with fail
        go_roundw
        case rel => exact ⟨m.extract r.length m.size, n + 1, by first | rfl | rw [HRS.out], by go_num, by rw [HSZ.out]; omega, HE, HB1⟩
        case measure => simp only [sizeV]; first | (rw [HSZ.out]; omega) | (rw [HRS.out, HSZ.out]; omega)
end Go.Proofs.Ytcpofeebfckmhaa
