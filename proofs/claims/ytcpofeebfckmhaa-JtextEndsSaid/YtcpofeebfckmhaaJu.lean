/- The program's unit, a mark with digits: the walk through its digits. -/
import Derived.Test.YtcpofeebfckmhaaJt
import Derived.Laws.BitsLemmas
namespace Go.Proofs.Ytcpofeebfckmhaa
open Go.RowKit
set_option maxRecDepth 20000
set_option linter.unusedVariables false
set_option linter.unusedSimpArgs false
theorem i32_or4 (x y : Int) (hx₀ : 0 ≤ x) (hx : x % 16 = 0) (hx₁ : x < 2147483648) (h₀ : 0 ≤ y) (h₁ : y < 16) : bits .or .i32 x y = x + y :=
  bits_join .i32 31 (by decide) wraps_i32 4 x y hx₀ hx hx₁ h₀ h₁ (by omega)
theorem i32_and15 (x : Int) (h₀ : 0 ≤ x) (h₁ : x < 2147483648) : bits .and .i32 x 15 = x % 16 := bits_mask .i32 31 (by decide) wraps_i32 4 (by decide) x h₀ h₁
/-- What the digits from place k on tell, c being told of those ahead. -/
def UInv (t : ByteArray) (F : Int × Int) (k : Nat) (c : Int) : Prop := k ≤ t.size ∧ t.size ≤ 4 ∧ F = fourG (4 - k) (2 + k) c ((bI t).drop k) ∧ 0 ≤ c ∧ c < 16 ^ k
def min4 (r : ByteArray) : Nat := if r.size < 4 then r.size else 4
theorem uinv_zero (r : ByteArray) : UInv (r.extract 0 (min4 r)) (fourG 4 2 0 (bI r)) 0 0 ∧ (r.extract 0 (min4 r)).size = min4 r := by
  have hm : min4 r ≤ r.size ∧ min4 r ≤ 4 := by unfold min4; split <;> omega
  have hs : (r.extract 0 (min4 r)).size = min4 r := by rw [ByteArray.size_extract]; omega
  refine ⟨⟨Nat.zero_le _, by rw [hs]; exact hm.2, ?_, by decide, by decide⟩, hs⟩
  rw [bI_extract _ _ _ (Nat.zero_le _), List.drop_zero, List.drop_zero]
  by_cases h : r.size < 4
  · unfold min4
    rw [if_pos h, List.take_of_length_le (by rw [bI_len]; omega)]
  · unfold min4
    rw [if_neg h]
    have := four_more 4 2 0 (bI r) [] (by rw [bI_len]; omega)
    rw [List.append_nil] at this
    exact this.symm
theorem uinv_bad {t : ByteArray} {F : Int × Int} {k : Nat} {c : Int} (h : UInv t F k c) (hk : k < t.size) (hd : digP (Utf8.decode t k).1 < 0) : F = (0, 4) := by
  obtain ⟨h1, h2, h3, h4, h5⟩ := h
  obtain ⟨b, e1, e2, e3⟩ := dig_round t k hk
  rw [h3, e1, show 4 - k = (3 - k) + 1 by omega]
  exact four_bad _ _ _ _ _ (by omega) (by rw [← e2]; exact hd)
theorem uinv_step {t : ByteArray} {F : Int × Int} {k : Nat} {c : Int} (h : UInv t F k c) (hk : k < t.size) (hd : ¬ digP (Utf8.decode t k).1 < 0) : (Utf8.decode t k).2 = 1 ∧ UInv t F (k + 1) (16 * c + digP (Utf8.decode t k).1) ∧ c < 4096 := by
  obtain ⟨h1, h2, h3, h4, h5⟩ := h
  obtain ⟨b, e1, e2, e3⟩ := dig_round t k hk
  rw [e2] at hd ⊢
  have hb := dig_lt b
  refine ⟨e3 hd, ⟨by omega, h2, ?_, by omega, ?_⟩, ?_⟩
  · rw [h3, e1, show 4 - k = (3 - k) + 1 by omega, four_dig _ _ _ _ _ (by omega) hd, show 4 - (k + 1) = 3 - k by omega, show 2 + (k + 1) = 2 + k + 1 by omega]
  · rw [Int.pow_succ]; omega
  · rcases (by omega : k = 0 ∨ k = 1 ∨ k = 2 ∨ k = 3) with rfl | rfl | rfl | rfl
    all_goals (simp only [Int.reducePow] at h5; omega)
theorem uinv_end {t : ByteArray} {F : Int × Int} {k : Nat} {c : Int} (h : UInv t F k c) (hk : ¬ k < t.size) : (t.size < 4 → F = (0, 3)) ∧ (¬ t.size < 4 → F = (c, 0)) := by
  obtain ⟨h1, h2, h3, h4, h5⟩ := h
  have e : (bI t).drop k = [] := List.drop_of_length_le (by rw [bI_len]; omega)
  rw [e] at h3
  constructor
  · intro h
    rw [h3, show 4 - k = (3 - k) + 1 by omega]; rfl
  · intro h
    rw [h3, show 4 - k = 0 by omega]; rfl
set_option maxHeartbeats 4000000 in
theorem unit_yes (s : ByteArray) (w : World) (hs : s.size ≤ 100000) (h0 : Lib.hasPrefix s.data.toList [92, 117] = true) : Calls Try.prog 33 #[.string s] w fun e w' => e = .returned (unitV s) ∧ Below w.heap.size w w' := by
  have H := Lib.hid (fun W => cp_any s { data := #[92, 117] } W)
  rw [show ({ data := #[92, 117] } : ByteArray).data.toList = [92, 117] from rfl, h0, trim_yes s h0] at H
  have HF : Hid (fourP (bI s) = fourG 4 2 0 (bI (rest2 s))) := Lib.hid (by rw [pre_yes s h0, four_pre])
  have hrs : (rest2 s).size ≤ 100000 := by
    have := congrArg List.length (rest2_bI s)
    rw [List.length_drop, bI_len, bI_len] at this
    omega
  unfold unitV
  rw [HF.out]
  clear HF h0 hs
  generalize rest2 s = r at *
  obtain ⟨hu, hsz⟩ := uinv_zero r
  obtain ⟨F, hF⟩ : ∃ F, fourG 4 2 0 (bI r) = F := ⟨_, rfl⟩
  rw [hF] at hu ⊢
  clear hF
  have hm : min (4 : Int) ((r.size : Nat) : Int) = (min4 r : Int) := by unfold min4; split <;> omega
  have HM : Hid (min4 r ≤ r.size ∧ min4 r ≤ 4 ∧ (min4 r < 4 ↔ r.size < 4)) := Lib.hid (by unfold min4; split <;> omega)
  generalize min4 r = m at *
  have HU := Lib.hid hu
  have HSZ := Lib.hid hsz
  clear hu hsz
  have hm1 := HM.out.1
  go_enter Try.func33, Try.ntmps33
  go_wp2_with fail
  refine (H.out _).mono ?_
  rintro e w' ⟨rfl, rfl⟩
  go_wp2_with fail
  have T0 : (m : Int).toNat = m := rfl
  go_loopw [6] (fun i wr => ∃ (k : Nat) (c : Int), i = .int .i32 c ∧ Hid (UInv (r.extract 0 m) F k c) ∧ Hid (wr.heap[w'.heap.size]? = some (.stringIter (r.extract 0 m) k)) ∧ Hid (Below w'.heap.size w' wr)) (fun _ wr => (r.extract 0 m).size - wr.iterPos w'.heap.size)
  case atStart => exact ⟨0, 0, rfl, HU, Lib.hid (World.iter_heap _ _ _), Lib.hid ((Below.refl _ _).alloc (Nat.le_refl _) _)⟩
  case round =>
    obtain ⟨k, c, rfl, HI, HIT, HB⟩ := hrel
    have HSZ2 := HSZ
    generalize r.extract 0 m = t at *
    by_cases hp : k < t.size
    · have hnx := fun ty => Lib.run_next_any_at (P := Try.prog) wr w'.heap.size t k ty HIT.out hp
      have hbd := dec_bd t k hp
      have HD := Lib.hid (fun W => digit_any (Utf8.decode t k).1 W (by omega) (by omega))
      have HW := Lib.hid (Lib.iterAt_heap wr w'.heap.size t k (k + (Utf8.decode t k).2) HIT.out)
      have HB2 := Lib.hid (Lib.below_iterAt HB.out (k := w'.heap.size) (Nat.le_refl _) t (k + (Utf8.decode t k).2))
      by_cases hd : digP (Utf8.decode t k).1 < 0
      · have hF := uinv_bad HI.out hp hd
        generalize Utf8.decode t k = d at *
        have HF := Lib.hid hF
        clear hbd hF
        go_wp2_with fail
        refine (HD.out _).mono ?_
        rintro e w2 ⟨rfl, hb2⟩
        have HB3 := Lib.hid (HB2.out.trans (hb2.mono HB2.out.size))
        clear hb2
        go_wp2_with fail
        refine bodyPost_ret (v := .tuple #[.int .i32 0, .int .i64 4]) (by simp [results, Try.results33, go_sem]) rfl ⟨by rw [HF.out], HB3.out⟩
      · obtain ⟨hw1, hI2, hc4⟩ := uinv_step HI.out hp hd
        have hc0 := HI.out.2.2.2.1
        have hdl := dig_lt (Utf8.decode t k).1
        generalize hg : digP (Utf8.decode t k).1 = g at *
        have hs4 : IntKind.i32.wrap (c * 16) = c * 16 := by rw [IntKind.wrap_i32]; omega
        have ho := i32_or4 (c * 16) g (by omega) (by omega) (by omega) (by omega) (by omega)
        have HI2 := Lib.hid (show UInv t F (k + 1) (c * 16 + g) by rw [Int.mul_comm c 16]; exact hI2)
        generalize Utf8.decode t k = d at *
        have HW1 := Lib.hid hw1
        clear hbd hdl hg hI2 hc4 hc0 hw1
        go_wp2_with fail
        refine (HD.out _).mono ?_
        rintro e w2 ⟨rfl, hb2⟩
        have HB3 := Lib.hid (HB2.out.trans (hb2.mono HB2.out.size))
        have HW2 : Hid (w2.heap[w'.heap.size]? = some (.stringIter t (k + d.2))) := Lib.hid (by rw [hb2.block _ (Array.getElem?_eq_some_iff.1 HW.out).1]; exact HW.out)
        clear hb2
        go_wp2_with fail
        go_roundw
        case rel => exact ⟨k + 1, c * 16 + g, rfl, HI2, by rw [← HW1.out]; exact HW2, HB3⟩
        case measure =>
          simp only [World.iterPos, HW2.out, HIT.out, HW1.out]
          omega
    · have hnx := fun ty => Lib.run_next_end_at (P := Try.prog) wr w'.heap.size t k ty HIT.out hp
      have he := uinv_end HI.out hp
      rw [HSZ.out] at he
      by_cases h4 : m < 4
      · have h4' : r.size < 4 := HM.out.2.2.1 h4
        have HF := Lib.hid (he.1 h4)
        have h5 : ((r.size : Nat) : Int) < 4 := by omega
        clear he h4 h4'
        go_wp2_with fail
        refine bodyPost_ret (v := .tuple #[.int .i32 0, .int .i64 3]) (by simp [results, Try.results33, go_sem]) rfl ⟨by rw [HF.out], HB.out⟩
      · have h4' : ¬ r.size < 4 := fun h => h4 (HM.out.2.2.2 h)
        have HF := Lib.hid (he.2 h4)
        have h5 : ¬ ((r.size : Nat) : Int) < 4 := by omega
        clear he h4 h4'
        go_wp2_with fail
        refine bodyPost_ret (v := .tuple #[.int .i32 c, .int .i64 0]) (by simp [results, Try.results33, go_sem]) rfl ⟨by rw [HF.out], HB.out⟩
theorem unit_any (s : ByteArray) (w : World) (hs : s.size ≤ 100000) : Calls Try.prog 33 #[.string s] w fun e w' => e = .returned (unitV s) ∧ Below w.heap.size w w' := by
  cases h : Lib.hasPrefix s.data.toList [92, 117] with
  | true => exact unit_yes s w hs h
  | false => exact unit_no s w h
end Go.Proofs.Ytcpofeebfckmhaa
