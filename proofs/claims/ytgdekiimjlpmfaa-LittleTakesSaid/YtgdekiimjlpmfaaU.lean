/- Contracts of the document's own Number, Num, Bytes, Rest and End in the program's own terms, for every scan and every number. -/
import Derived.Test.YtgdekiimjlpmfaaT
namespace Go.Proofs.Ytgdekiimjlpmfaa
open Go.RowKit
set_option linter.unusedVariables false
theorem left_in (t : ByteArray) (p n : Int) (h0 : 0 ≤ p) (h1 : p ≤ t.size) (hm : t.size ≤ maxLen) : leftV t p n = if (t.size : Int) - p < n then 3 else 0 := by
  unfold maxLen at hm
  unfold leftV
  rw [IntWalk.wrap64_in _ (by omega)]
theorem takeBad_q (t : ByteArray) (p q n : Int) (b : Bool) (h : q ≠ 0) : takeBad t p q n b = q := by simp [takeBad, firstOf, h]
theorem takeBad_place (t : ByteArray) (p n : Int) (b : Bool) (h : p < 0 ∨ t.size < p) : takeBad t p 0 n b = 2 := by
  have : placedV t p = 2 := if_neg (by omega)
  simp [takeBad, firstOf, this]
theorem placed_zero (t : ByteArray) (p : Int) (h0 : 0 ≤ p) (h1 : p ≤ t.size) : placedV t p = 0 := if_pos ⟨h0, h1⟩
theorem take_no (t : ByteArray) (p q n : Int) (b : Bool) (w : World) (hm : t.size ≤ maxLen) (h : takeBad t p q n b ≠ 0) : Calls Try.prog 33 #[.agg #[.string t, .int .i64 p, .int .i64 q], .int .i64 n, .bool b] w (TakeNo t p (takeBad t p q n b) w) := by
  by_cases hq : q = 0
  · subst hq
    by_cases hp : 0 ≤ p ∧ p ≤ t.size
    · obtain ⟨h0, h1⟩ := hp
      cases b with
      | true =>
        have e : takeBad t p 0 n true = 2 := by simp [takeBad, firstOf, placed_zero t p h0 h1, wrongV]
        rw [e]; exact take_wrong t p n w h0 h1
      | false =>
        have e : takeBad t p 0 n false = leftV t p n := by simp only [takeBad, firstOf, placed_zero t p h0 h1, wrongV]; simp; intro h; exact h.symm
        rw [e] at h ⊢
        rw [left_in t p n h0 h1 hm] at h ⊢
        by_cases hs : (t.size : Int) - p < n
        · rw [if_pos hs]; exact take_short t p n w h0 h1 hm hs
        · rw [if_neg hs] at h; exact absurd rfl h
    · have hp' : p < 0 ∨ t.size < p := by omega
      rw [takeBad_place t p n b hp']
      exact take_place t p n b w hp'
  · rw [takeBad_q t p q n b hq]
    exact take_bad t p q n b w hq
theorem mul_byte (x : Int) (c : Nat) (x0 : 0 ≤ x) (x1 : x < 72057594037927936) (hc : c < 256) : IntKind.u64.wrap (256 * x + IntKind.u64.wrap c) = c + 256 * x := by
  rw [wrap_u64, wrap_u64]; omega
theorem rnumber_any (t : ByteArray) (w : World) (h8 : t.size ≤ 8) :
    Calls Try.prog 34 #[.string t] w fun e w' => e = .returned (.int .u64 (numB t.data.toList)) ∧ w = w' := by
  go_enter Try.func34, Try.ntmps34
  go_wp2
  go_loop [3, 4] (fun x i => ∃ k : Nat, k ≤ t.size ∧ i = .int .i64 ((k : Int) - 1) ∧ x = .int .u64 (numB (t.data.toList.drop k))) (fun _ i => (intOf i + 1).toNat)
  case atStart => exact ⟨t.size, Nat.le_refl _, rfl, by rw [List.drop_of_length_le (by simp)]; rfl⟩
  case round =>
    obtain ⟨k, hk, rfl, rfl⟩ := hrel
    by_cases hlt : 1 ≤ k
    · have hbd : 0 ≤ numB (t.data.toList.drop k) ∧ numB (t.data.toList.drop k) < 72057594037927936 := by
        have := numB_bd (t.data.toList.drop k)
        have := pow256_le (t.data.toList.drop k).length (by simp; omega)
        omega
      generalize hx : numB (t.data.toList.drop k) = x at *
      have HX := Lib.hid hx; clear hx
      have hs := numB_step t.data.toList k hlt (by simpa using hk)
      rw [HX.out] at hs
      have hc : t[k - 1].toNat < 256 := byte_bd _
      have HS := Lib.hid hs; clear hs
      have HC := Lib.hid hc; clear hc
      go_wp2
      refine ⟨⟨k - 1, by omega, ?_, ?_⟩, ?_⟩
      · congr 1; omega
      · rw [mul_byte x _ hbd.1 hbd.2 HC.out]; exact congrArg _ HS.out.symm
      · simp [intOf]; omega
    · obtain rfl : k = 0 := by omega
      go_wp2
      go_ret
      exact ⟨by simp, rfl⟩
theorem numBad_take (t : ByteArray) (p q n : Int) (b : Bool) (h : b = true ↔ (n < 1 ∨ 8 < n)) : takeBad t p q n b = numBad t p q n := by
  have e : wrongV b = wideV n := by
    cases b with
    | true => have := h.1 rfl; exact (if_neg (by omega) : wideV n = 2).symm
    | false =>
      have hn : 1 ≤ n ∧ n ≤ 8 := by
        have : ¬ (n < 1 ∨ 8 < n) := fun g => by have := h.2 g; cases this
        omega
      exact (if_pos hn : wideV n = 0).symm
  unfold takeBad numBad
  rw [e]
theorem bytesBad_take (t : ByteArray) (p q n : Int) (b : Bool) (h : b = true ↔ n < 0) : takeBad t p q n b = bytesBad t p q n := by
  have e : wrongV b = countedV n := by
    cases b with
    | true => have := h.1 rfl; exact (if_pos this : countedV n = 2).symm
    | false =>
      have hn : ¬ n < 0 := fun g => by have := h.2 g; cases this
      exact (if_neg hn : countedV n = 0).symm
  unfold takeBad bytesBad
  rw [e]
set_option maxHeartbeats 1000000 in
theorem rnum_no (t : ByteArray) (p q n : Int) (w : World) (hm : t.size ≤ maxLen) (h : numBad t p q n ≠ 0) : Calls Try.prog 13 #[.agg #[.string t, .int .i64 p, .int .i64 q], .int .i64 n] w
    fun e w' => e = .returned (.tuple #[.int .u64 0, .agg #[.string t, .int .i64 p, .int .i64 (numBad t p q n)]]) ∧ Below w.heap.size w w' := by
  have key : ∀ b, (b = true ↔ (n < 1 ∨ 8 < n)) → ∀ W, Calls Try.prog 33 #[.agg #[.string t, .int .i64 p, .int .i64 q], .int .i64 n, .bool b] W (TakeNo t p (numBad t p q n) W) := by
    intro b hb W
    have := take_no t p q n b W hm (by rw [numBad_take t p q n b hb]; exact h)
    rwa [numBad_take t p q n b hb] at this
  have HK := Lib.hid key; clear key h hm
  rcases (by omega : n < 1 ∨ 8 < n ∨ (1 ≤ n ∧ n ≤ 8)) with hn | hn | ⟨n0, n1⟩
  · go_enter Try.func13, Try.ntmps13
    go_wp2_with fail
    refine (HK.out _ (by simp; try omega) _).mono ?_
    rintro e w1 ⟨rfl, hb⟩
    obtain ⟨hz, hbw, c0, c1, c2, c3, c4, c5, f0, f1⟩ := kept2 hb
    have hz1 : w.heap.size + 1 < w1.heap.size := by omega
    have hz0 : w.heap.size < w1.heap.size := by omega
    clear hb
    obtain ⟨r, hr⟩ : ∃ r, numBad t p q n = r := ⟨_, rfl⟩
    have HR := Lib.hid hr
    rw [hr]
    clear hr
    go_wp2_with fail
    go_region_with (go_at_call 34; refine (rnumber_any ⟨#[]⟩ _ (by decide)).mono ?_; rintro e w' ⟨rfl, rfl⟩)
    all_goals
      go_wp2
      refine bodyPost_ret (v := .tuple #[.int .u64 0, .agg #[.string t, .int .i64 p, .int .i64 r]]) (by simp [results, Try.results13, go_sem, hz1, c3, c4, c5, numB]) rfl ⟨by rw [HR.out], ?_⟩
      go_grown
  · have h1 : ¬ n < 1 := by omega
    have h2 : decide (8 < n) = true := by simp; omega
    go_enter Try.func13, Try.ntmps13
    go_wp2_with fail
    refine (HK.out _ (by simp; try omega) _).mono ?_
    rintro e w1 ⟨rfl, hb⟩
    obtain ⟨hz, hbw, c0, c1, c2, c3, c4, c5, f0, f1⟩ := kept2 hb
    have hz1 : w.heap.size + 1 < w1.heap.size := by omega
    have hz0 : w.heap.size < w1.heap.size := by omega
    clear hb
    obtain ⟨r, hr⟩ : ∃ r, numBad t p q n = r := ⟨_, rfl⟩
    have HR := Lib.hid hr
    rw [hr]
    clear hr
    go_wp2_with fail
    go_region_with (go_at_call 34; refine (rnumber_any ⟨#[]⟩ _ (by decide)).mono ?_; rintro e w' ⟨rfl, rfl⟩)
    all_goals
      go_wp2
      refine bodyPost_ret (v := .tuple #[.int .u64 0, .agg #[.string t, .int .i64 p, .int .i64 r]]) (by simp [results, Try.results13, go_sem, hz1, c3, c4, c5, numB]) rfl ⟨by rw [HR.out], ?_⟩
      go_grown
  · have h2 : (decide (n < 1) || decide (8 < n)) = false := by simp; omega
    go_enter Try.func13, Try.ntmps13
    go_wp2_with fail
    refine (HK.out _ (by simp; try omega) _).mono ?_
    rintro e w1 ⟨rfl, hb⟩
    obtain ⟨hz, hbw, c0, c1, c2, c3, c4, c5, f0, f1⟩ := kept2 hb
    have hz1 : w.heap.size + 1 < w1.heap.size := by omega
    have hz0 : w.heap.size < w1.heap.size := by omega
    clear hb
    obtain ⟨r, hr⟩ : ∃ r, numBad t p q n = r := ⟨_, rfl⟩
    have HR := Lib.hid hr
    rw [hr]
    clear hr
    go_wp2_with fail
    go_region_with (go_at_call 34; refine (rnumber_any ⟨#[]⟩ _ (by decide)).mono ?_; rintro e w' ⟨rfl, rfl⟩)
    all_goals
      go_wp2
      refine bodyPost_ret (v := .tuple #[.int .u64 0, .agg #[.string t, .int .i64 p, .int .i64 r]]) (by simp [results, Try.results13, go_sem, hz1, c3, c4, c5, numB]) rfl ⟨by rw [HR.out], ?_⟩
      go_grown
set_option maxHeartbeats 1000000 in
theorem rnum_yes (t : ByteArray) (p n : Int) (w : World) (hm : t.size ≤ maxLen) (p0 : 0 ≤ p) (n0 : 1 ≤ n) (n1 : n ≤ 8) (hp : p + n ≤ t.size) : Calls Try.prog 13 #[.agg #[.string t, .int .i64 p, .int .i64 0], .int .i64 n] w
    fun e w' => e = .returned (.tuple #[.int .u64 (numB (t.extract p.toNat (p + n).toNat).data.toList), .agg #[.string t, .int .i64 (p + n), .int .i64 0]]) ∧ Below w.heap.size w w' := by
  have HK := Lib.hid (fun W => take_yes t p n W p0 (by omega) hm hp)
  have hw : (decide (n < 1) || decide (8 < n)) = false := by simp; omega
  have hx : (t.extract p.toNat (p + n).toNat).size ≤ 8 := by simp; omega
  have HX := Lib.hid hx; clear hx hm
  go_enter Try.func13, Try.ntmps13
  go_wp2_with fail

  refine (HK.out _).mono ?_
  rintro e w1 ⟨rfl, hb⟩
  obtain ⟨hz, hbw, c0, c1, c2, c3, c4, c5, f0, f1⟩ := kept2 hb
  have hz1 : w.heap.size + 1 < w1.heap.size := by omega
  have hz0 : w.heap.size < w1.heap.size := by omega
  clear hb
  obtain ⟨x, he⟩ : ∃ x, t.extract p.toNat (p + n).toNat = x := ⟨_, rfl⟩
  have hx := HX.out
  rw [he] at hx ⊢
  have HE := Lib.hid he; clear he
  have HX' := Lib.hid hx; clear hx HX
  go_wp2_with fail
  go_region_with (go_at_call 34; refine (rnumber_any x _ HX'.out).mono ?_; rintro e w' ⟨rfl, rfl⟩)
  all_goals
    go_wp2
    refine bodyPost_ret (v := .tuple #[.int .u64 (numB x.data.toList), .agg #[.string t, .int .i64 (p + n), .int .i64 0]]) (by simp [results, Try.results13, go_sem, hz1, c3, c4, c5]) rfl ⟨by rw [HE.out], ?_⟩
    go_grown
end Go.Proofs.Ytgdekiimjlpmfaa
