/- Contracts of the document's put for every interval, of Union, and of the law's own and Back. -/
import Derived.Test.YthlekifagidijaaDoorRp
namespace Go.Proofs.YthlekifagidijaaDoor
open Go.RowKit
set_option linter.unusedVariables false
set_option linter.unusedSimpArgs false
theorem rput_any (v : Value) (L : List (Int × Int)) (p q : Int) (p0 : 0 ≤ p) (p1 : p ≤ 18446744073709551615) (q0 : 0 ≤ q) (q1 : q ≤ 18446744073709551615) (hw : WideS L) (hl : L.length ≤ 100000) (w : World) (hv : SpansAt w v L) : Calls Tryd.prog 36 #[v, .agg #[.int .u64 p, .int .u64 q]] w (SpansEnd (putL L (p, q)) w) := by
  by_cases h : q < p
  · rw [show putL L (p, q) = L from if_pos h]
    have hv' := Lib.hid (hv.below ((Below.refl w.heap.size w).alloc (Nat.le_refl _) (.cells #[.int .u64 p, .int .u64 q] 69)))
    clear hv
    go_enter Tryd.func36, Tryd.ntmps36
    go_wp2_with fail
    go_ret
    exact ⟨_, rfl, hv'.out, by go_grown⟩
  · exact rput_in v L p q (by omega) p0 p1 q0 q1 hw hl w hv
theorem grow_wide (L : List (Int × Int)) (s : Int × Int) (hw : WideS L) (hs : 0 ≤ s.1 ∧ s.1 ≤ 18446744073709551615 ∧ 0 ≤ s.2 ∧ s.2 ≤ 18446744073709551615) : 0 ≤ (grow L s).1 ∧ (grow L s).1 ≤ 18446744073709551615 ∧ 0 ≤ (grow L s).2 ∧ (grow L s).2 ≤ 18446744073709551615 := by
  induction L generalizing s with
  | nil => exact hs
  | cons t l ih =>
    have ht := hw t List.mem_cons_self
    have hl : WideS l := fun u hu => hw u (List.mem_cons_of_mem _ hu)
    rw [grow]
    split
    · exact ih _ hl (by dsimp only; omega)
    · exact ih s hl hs
theorem put_wide (L : List (Int × Int)) (s : Int × Int) (hw : WideS L) (hs : 0 ≤ s.1 ∧ s.1 ≤ 18446744073709551615 ∧ 0 ≤ s.2 ∧ s.2 ≤ 18446744073709551615) : WideS (putL L s) := by
  unfold putL
  split
  · exact hw
  · intro t ht
    rcases (ins_all _ _ t).1 ht with rfl | ht
    · exact grow_wide L s hw hs
    · exact hw t ((rest_sub L s).subset ht)
theorem ins_len (s : Int × Int) (l : List (Int × Int)) : (ins s l).length = l.length + 1 := by
  induction l with
  | nil => rfl
  | cons t l ih =>
    rw [ins]
    split
    · simp [ih]
    · simp
theorem put_len (L : List (Int × Int)) (s : Int × Int) : (putL L s).length ≤ L.length + 1 := by
  unfold putL
  split
  · omega
  · rw [ins_len]
    have := (rest_sub L s).length_le
    omega
theorem puts_snoc (l m : List (Int × Int)) (s : Int × Int) : puts l (m ++ [s]) = putL (puts l m) s := by
  induction m generalizing l with
  | nil => rfl
  | cons t m ih => rw [List.cons_append, puts, ih, puts]
theorem puts_wide (l m : List (Int × Int)) (hl : WideS l) (hm : WideS m) : WideS (puts l m) := by
  induction m generalizing l with
  | nil => exact hl
  | cons s m ih => exact ih _ (put_wide l s hl (hm s List.mem_cons_self)) (fun u hu => hm u (List.mem_cons_of_mem _ hu))
theorem puts_len (l m : List (Int × Int)) : (puts l m).length ≤ l.length + m.length := by
  induction m generalizing l with
  | nil => simp [puts]
  | cons s m ih =>
    have h1 := ih (putL l s)
    have h2 := put_len l s
    rw [puts, List.length_cons]
    omega
theorem wide_take (l : List (Int × Int)) (n : Nat) (h : WideS l) : WideS (l.take n) := fun t ht => h t (List.mem_of_mem_take ht)
theorem wide_nil : WideS [] := fun t h => by simp at h
set_option maxHeartbeats 1000000 in
theorem runion_any (v1 v2 : Value) (a b : List (Int × Int)) (w : World) (h1 : SpansAt w v1 a) (h2 : SpansAt w v2 b) (wa : WideS a) (wb : WideS b) (la : a.length ≤ 10000) (lb : b.length ≤ 10000) : Calls Tryd.prog 21 #[v1, v2] w (SpansEnd (puts (puts [] a) b) w) := by
  obtain ⟨al, cap, rfl, _, _, hc⟩ := h1
  obtain ⟨al2, cap2, rfl, _, _, hc2⟩ := h2
  have HC := Lib.hid hc
  have HC2 := Lib.hid hc2
  have WA := Lib.hid wa
  have WB := Lib.hid wb
  clear hc hc2 wa wb
  go_enter Tryd.func21, Tryd.ntmps21
  go_wp2_with fail
  go_loopw [5, 6] (fun o s wr => ∃ i : Nat, i ≤ a.length ∧ s = .int .i64 i ∧ Hid (SpansAt wr o (puts [] (a.take i))) ∧ Below w.heap.size w wr) (fun _ s _ => a.length - (intOf s).toNat)
  case atStart => exact ⟨0, Nat.zero_le _, rfl, Lib.hid (spans_nil _), Below.refl _ _⟩
  case round =>
    obtain ⟨i, hi, rfl, HO, hbw⟩ := hrel
    by_cases hlt : i < a.length
    · obtain ⟨t, ht⟩ : ∃ t, a[i]? = some t := ⟨_, List.getElem?_eq_getElem hlt⟩
      obtain ⟨b0, b1, b2, b3⟩ := WA.out t (List.mem_of_getElem? ht)
      obtain ⟨g, off, rfl, hg, l0, l1⟩ := HC.out i t ht
      replace l0 := scell_later hbw l0
      replace l1 := scell_later hbw l1
      have htk : a.take (i + 1) = a.take i ++ [t] := by rw [List.take_add_one, ht]; rfl
      have HTK : Hid (puts [] (a.take (i + 1)) = putL (puts [] (a.take i)) t) := Lib.hid (by rw [htk, puts_snoc])
      have hlen := puts_len [] (a.take i)
      rw [List.length_take, List.length_nil] at hlen
      have HP := Lib.hid (fun (W : World) (hv : SpansAt W u5 (puts [] (a.take i))) => rput_any u5 (puts [] (a.take i)) t.1 t.2 b0 b1 b2 b3 (puts_wide _ _ wide_nil (wide_take _ _ WA.out)) (by omega) W hv)
      have hi2 : (i : Int) < (a.length : Int) := by omega
      clear ht htk hlen
      obtain ⟨p, q⟩ := t
      dsimp only at l0 l1 b0 b1 b2 b3 HP
      go_wp2_with fail
      refine (HP.out _ HO.out).mono ?_
      rintro e w3 ⟨v3, rfl, hv3, hb3⟩
      have hbw3 := hbw.trans (hb3.mono hbw.size)
      have HV3 := Lib.hid hv3
      clear hv3 hb3 l0 l1 hbw HP HO
      go_wp2_with fail
      go_roundw
      case rel => exact ⟨i + 1, by omega, by go_num, Lib.hid (by rw [HTK.out]; exact HV3.out), hbw3⟩
      case measure => simp [intOf]; omega
    · obtain rfl : i = a.length := by omega
      rw [List.take_length] at HO
      have hal := puts_len [] a
      rw [List.length_nil] at hal
      have HWA := Lib.hid (puts_wide [] a wide_nil WA.out)
      go_wp2_with fail
      go_loopw [5, 7] (fun o s wx => ∃ i : Nat, i ≤ b.length ∧ s = .int .i64 i ∧ Hid (SpansAt wx o (puts (puts [] a) (b.take i))) ∧ Below w.heap.size w wx) (fun _ s _ => b.length - (intOf s).toNat)
      case atStart => exact ⟨0, Nat.zero_le _, rfl, HO, hbw⟩
      case round =>
        clear HO hbw
        obtain ⟨i, hi, rfl, HO, hbw⟩ := hrel
        by_cases hlt : i < b.length
        · obtain ⟨t, ht⟩ : ∃ t, b[i]? = some t := ⟨_, List.getElem?_eq_getElem hlt⟩
          obtain ⟨b0, b1, b2, b3⟩ := WB.out t (List.mem_of_getElem? ht)
          obtain ⟨g, off, rfl, hg, l0, l1⟩ := HC2.out i t ht
          replace l0 := scell_later hbw l0
          replace l1 := scell_later hbw l1
          have htk : b.take (i + 1) = b.take i ++ [t] := by rw [List.take_add_one, ht]; rfl
          have HTK : Hid (puts (puts [] a) (b.take (i + 1)) = putL (puts (puts [] a) (b.take i)) t) := Lib.hid (by rw [htk, puts_snoc])
          have hlen := puts_len (puts [] a) (b.take i)
          rw [List.length_take] at hlen
          have HP := Lib.hid (fun (v : Value) (W : World) (hv : SpansAt W v (puts (puts [] a) (b.take i))) => rput_any v (puts (puts [] a) (b.take i)) t.1 t.2 b0 b1 b2 b3 (puts_wide _ _ HWA.out (wide_take _ _ WB.out)) (by omega) W hv)
          have hi2 : (i : Int) < (b.length : Int) := by omega
          clear ht htk hlen
          obtain ⟨p, q⟩ := t
          dsimp only at l0 l1 b0 b1 b2 b3 HP
          go_wp2_with fail
          refine (HP.out _ _ HO.out).mono ?_
          rintro e w3 ⟨v3, rfl, hv3, hb3⟩
          have hbw3 := hbw.trans (hb3.mono hbw.size)
          have HV3 := Lib.hid hv3
          clear hv3 hb3 l0 l1 hbw HP HO
          go_wp2_with fail
          go_roundw
          case rel => exact ⟨i + 1, by omega, by go_num, Lib.hid (by rw [HTK.out]; exact HV3.out), hbw3⟩
          case measure => simp [intOf]; omega
        · obtain rfl : i = b.length := by omega
          rw [List.take_length] at HO
          go_wp2_with fail
          go_ret
          exact ⟨_, rfl, HO.out, hbw⟩
end Go.Proofs.YthlekifagidijaaDoor
