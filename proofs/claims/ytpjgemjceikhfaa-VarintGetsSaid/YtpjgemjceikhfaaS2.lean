/- The contract of the document's own Get, for every scan: what the program's answers too. -/
import Derived.Test.YtpjgemjceikhfaaS
import Derived.Test.YtpjgemjceikhfaaJ
namespace Go.Proofs.Ytpjgemjceikhfaa
open Go.RowKit
set_option linter.unusedVariables false
theorem rget_1 (t : ByteArray) (p q : Int) (w : World) (h : q ≠ 0) : Calls Try.prog 16 #[.agg #[.string t, .int .i64 p, .int .i64 q]] w (GetEnd t 0 p q w) := by
  have hne : (q != 0) = true := by simp only [bne_iff_ne, ne_eq]; exact h
  clear h
  go_enter Try.func16, Try.ntmps16
  go_wp2_with fail
  go_region
  all_goals
    go_wp2
    refine bodyPost_ret (v := .tuple #[.int .u64 0, .agg #[.string t, .int .i64 p, .int .i64 q]]) (by simp [results, Try.results16, go_sem]) rfl ⟨rfl, ?_⟩
    go_grown
theorem rget_2 (t : ByteArray) (p : Int) (w : World) (h : p < 0 ∨ t.size < p) : Calls Try.prog 16 #[.agg #[.string t, .int .i64 p, .int .i64 0]] w (GetEnd t 0 p 2 w) := by
  rcases h with h | h
  · go_enter Try.func16, Try.ntmps16
    go_wp2_with fail
    go_region
    all_goals
      go_wp2
      refine bodyPost_ret (v := .tuple #[.int .u64 0, .agg #[.string t, .int .i64 p, .int .i64 2]]) (by simp [results, Try.results16, go_sem]) rfl ⟨rfl, ?_⟩
      go_grown
  · have h0 : 0 ≤ p := by omega
    go_enter Try.func16, Try.ntmps16
    go_wp2_with fail
    go_region
    all_goals
      go_wp2
      refine bodyPost_ret (v := .tuple #[.int .u64 0, .agg #[.string t, .int .i64 p, .int .i64 2]]) (by simp [results, Try.results16, go_sem]) rfl ⟨rfl, ?_⟩
      go_grown
theorem rget_3 (t : ByteArray) (p r : Int) (w : World) (hm : t.size ≤ maxLen) (p0 : 0 ≤ p) (p1 : p ≤ t.size) (hr : errV (rst t p) = r) (h : r ≠ 0) : Calls Try.prog 16 #[.agg #[.string t, .int .i64 p, .int .i64 0]] w (GetEnd t 0 p r w) := by
  have hne : (r != 0) = true := by simp only [bne_iff_ne, ne_eq]; exact h
  have hzz : (t.extract p.toNat t.size).size ≤ maxLen := by simp; omega
  have HF : Hid (∀ W, Calls Try.prog 27 #[.string (t.extract p.toNat t.size)] W fun e w' => e = .returned (.tuple #[.int .i64 r, .int .i64 0]) ∧ W = w') := by
    apply Lib.hid
    intro W
    have := wrong_any (t.extract p.toNat t.size) W hzz
    rw [ext_rst, hr, (fst_no _ r hr h).2] at this
    exact this
  unfold maxLen at hm
  clear hr h hzz
  go_enter Try.func16, Try.ntmps16
  go_wp2_with fail
  refine (HF.out _).mono ?_
  rintro e w3 ⟨rfl, rfl⟩
  clear HF
  go_wp2_with fail
  go_region
  all_goals
    go_wp2
    refine bodyPost_ret (v := .tuple #[.int .u64 0, .agg #[.string t, .int .i64 p, .int .i64 r]]) (by simp [results, Try.results16, go_sem]) rfl ⟨rfl, ?_⟩
    go_grown
/-- One round of the document's own sum. -/
theorem sum_step (t : ByteArray) (p : Int) (c k : Nat) (p0 : 0 ≤ p) (hk : 1 ≤ k) (hc : k ≤ c) (hp : p + c ≤ t.size) (h : (p + ((k : Int) - 1)).toNat < t.size) :
    numV (((rst t p).take c).drop (k - 1)) = ((t[(p + ((k : Int) - 1)).toNat].toNat : Int) % 128) + 128 * numV (((rst t p).take c).drop k) := by
  have hl : ((rst t p).length : Int) = t.size - p := rst_len t p p0 (by omega)
  have hL : ((rst t p).take c).length = c := by rw [List.length_take]; omega
  rw [numV_drop _ (k - 1) (by omega), show k - 1 + 1 = k from by omega]
  congr 2
  have e : (((rst t p).take c).getD (k - 1) 0) = t[(p + ((k : Int) - 1)).toNat] := by
    rw [← list_at t _ h]
    unfold rst
    have : p.toNat + (k - 1) = (p + ((k : Int) - 1)).toNat := by omega
    simp [List.getD, show k - 1 < c from by omega, this]
  rw [e]
theorem sum_bd (L : List UInt8) (k : Nat) (h : numV L ≤ 18446744073709551615) : 0 ≤ numV (L.drop k) ∧ numV (L.drop k) ≤ 18446744073709551615 := ⟨(numV_bd _).1, by have := numV_drop_le L k; omega⟩
theorem rget_4 (t : ByteArray) (p : Int) (w : World) (hm : t.size ≤ maxLen) (p0 : 0 ≤ p) (p1 : p ≤ t.size) (hr : errV (rst t p) = 0) : Calls Try.prog 16 #[.agg #[.string t, .int .i64 p, .int .i64 0]] w (GetEnd t (valV (rst t p)) (p + cntV (rst t p)) 0 w) := by
  have hcb := cnt_bd t p p0 p1 hr
  have hvb := valV_bd _ hr
  have hzz : (t.extract p.toNat t.size).size ≤ maxLen := by simp; omega
  obtain ⟨c, hc⟩ : ∃ c : Nat, cntV (rst t p) = c := ⟨_, rfl⟩
  have hcv : valV (rst t p) = numV ((rst t p).take c) := by
    have : lead 10 (rst t p) + 1 = c := by unfold cntV at hc; omega
    unfold valV; rw [this]
  have HF : Hid (∀ W, Calls Try.prog 27 #[.string (t.extract p.toNat t.size)] W fun e w' => e = .returned (.tuple #[.int .i64 0, .int .i64 c]) ∧ W = w') := by
    apply Lib.hid
    intro W
    have := wrong_any (t.extract p.toNat t.size) W hzz
    rw [ext_rst, hr, (fst_ok _ hr).2, hc] at this
    exact this
  have HS := Lib.hid (fun k => sum_step t p c k p0)
  rw [hcv] at hvb ⊢
  rw [hc] at hcb ⊢
  have HD := Lib.hid (fun k => sum_bd ((rst t p).take c) k hvb.2)
  clear hcv hc hr
  obtain ⟨cb0, cb1, cb2⟩ := hcb
  generalize hL : (rst t p).take c = L at *
  unfold maxLen at hm
  have hLl : L.length = c := by
    have hl : ((rst t p).length : Int) = t.size - p := rst_len t p p0 p1
    rw [← hL, List.length_take]; omega
  have HL := Lib.hid hLl
  clear hL hvb hzz hLl
  go_enter Try.func16, Try.ntmps16
  go_wp2_with fail
  refine (HF.out _).mono ?_
  rintro e w3 ⟨rfl, rfl⟩
  clear HF
  go_wp2_with fail
  go_loop [6, 7] (fun x i => ∃ k : Nat, k ≤ c ∧ i = .int .i64 ((k : Int) - 1) ∧ x = .int .u64 (numV (L.drop k))) (fun _ i => (intOf i + 1).toNat)
  case atStart => exact ⟨c, Nat.le_refl _, rfl, by rw [List.drop_of_length_le (by rw [HL.out]; exact Nat.le_refl _)]; rfl⟩
  case round =>
    obtain ⟨k, hk, rfl, rfl⟩ := hrel
    by_cases hlt : 1 ≤ k
    · have hs := HS.out k hlt hk cb1 (by omega)
      have hb1 := HD.out (k - 1)
      have hb2 := HD.out k
      generalize hy : numV (L.drop k) = y at *
      have hi0 : 0 ≤ p + ((k : Int) - 1) := by omega
      have hi1 : p + ((k : Int) - 1) < t.size := by omega
      rw [hs] at hb1
      obtain ⟨s0, s1⟩ := hb1
      obtain ⟨y0, y1⟩ := hb2
      have HS1 := Lib.hid hs
      have HY := Lib.hid hy
      clear hs hy
      go_wp2_with fail
      refine ⟨⟨k - 1, by omega, by congr 1; omega, by rw [HS1.out]; congr 1; omega⟩, by simp [intOf]; omega⟩
    · obtain rfl : k = 0 := by omega
      obtain ⟨y, hy⟩ : ∃ y, numV L = y := ⟨_, rfl⟩
      rw [List.drop_zero, hy]
      have HY := Lib.hid hy
      clear HS HD HL hy
      have hi0 : ((0 : Nat) : Int) - 1 = -1 := rfl
      go_wp2_with fail
      go_region
      all_goals
        go_wp2
        refine bodyPost_ret (v := .tuple #[.int .u64 y, .agg #[.string t, .int .i64 (p + c), .int .i64 0]]) (by simp [results, Try.results16, go_sem]) rfl ⟨by rw [HY.out], ?_⟩
        go_grown
theorem rget_any (t : ByteArray) (p q : Int) (w : World) (hm : t.size ≤ maxLen) : Calls Try.prog 16 #[.agg #[.string t, .int .i64 p, .int .i64 q]] w (GetEnd t (getX t p q) (getP t p q) (getB t p q) w) := by
  by_cases h0 : restBad t p q = 0
  · obtain ⟨rfl, p0, p1⟩ := restBad_ok t p q h0
    by_cases he : errV (rst t p) = 0
    · have hB : getB t p 0 = 0 := by unfold getB; rw [if_pos h0, he]
      have := rget_4 t p w hm p0 p1 he
      unfold getX getP
      rw [hB, if_pos rfl, if_pos rfl]
      exact this
    · have hB : getB t p 0 = errV (rst t p) := by unfold getB; rw [if_pos h0]
      have := rget_3 t p _ w hm p0 p1 rfl he
      unfold getX getP
      rw [hB, if_neg he, if_neg he]
      exact this
  · have hB : getB t p q = restBad t p q := by unfold getB; rw [if_neg h0]
    unfold getX getP
    rw [hB, if_neg h0, if_neg h0]
    by_cases hq : q = 0
    · subst hq
      have hp : p < 0 ∨ t.size < p := by
        by_cases hp : 0 ≤ p ∧ p ≤ t.size
        · exact absurd (by unfold restBad placedV; rw [if_pos hp]; rfl) h0
        · omega
      have e : restBad t p 0 = 2 := by unfold restBad placedV; rw [if_neg (by omega)]; rfl
      rw [e]
      exact rget_2 t p w hp
    · have e : restBad t p q = q := by unfold restBad; simp only [firstOf]; rw [if_neg hq]
      rw [e]
      exact rget_1 t p q w hq
end Go.Proofs.Ytpjgemjceikhfaa
