/- Several texts, one behind the other: Q, G, H, I, J, S, S2. -/
import Derived.Test.YtbkodaijigcebaaMB
import Derived.OwnWalk
/- Contracts of the document's own Bytes and All: the text of a number's bytes, and of all of them. -/
namespace Go.Proofs.Ytbkodaijigcebaa
open Go.RowKit
set_option maxRecDepth 20000
set_option linter.unusedVariables false
theorem bytes_built (w : World) (c : Int) : BytesAt (w.alloc (.cells #[.int .u8 c] 5)) (.slice (some ⟨w.heap.size, 0, none⟩) 1 1) [c] :=
  ⟨_, 1, rfl, Nat.le_refl _, by unfold maxLen; omega, fun _ => ⟨_, rfl, by simp, fun i hi => by
    have h0 : i = 0 := by simp at hi; exact hi
    subst h0
    rw [show (⟨w.heap.size, 0, none⟩ : Addr).add 0 = ⟨w.heap.size, 0, none⟩ from rfl, World.cell?_alloc_at _ _ _ _ rfl]; rfl⟩⟩
theorem bytes_lo (x : Int) (w : World) (x0 : 0 ≤ x) (x1 : x < 128) : Calls Try.prog 81 #[.int .u64 x] w fun e w' => e = .returned (.string (str (enc x))) ∧ Below w.heap.size w w' := by
  have hm : x % 256 = x := by omega
  have hs := run_str _ _ _ (bytes_built w x)
  have HE := Lib.hid (enc_lt x x1)
  go_enter Try.func81, Try.ntmps81
  go_wp2_with fail
  go_ret
  exact ⟨by rw [HE.out]; rfl, (Below.refl _ _).alloc (Nat.le_refl _) _⟩
theorem u8_wrap (n : Int) : IntKind.u8.wrap n = n % 256 := by
  simp only [IntKind.wrap, IntKind.bits, IntKind.signed, Bool.false_and, Int.reducePow]; simp
set_option maxRecDepth 20000 in
theorem rbytes_f (f : Nat) (x : Int) (w : World) (x0 : 0 ≤ x) (x1 : x ≤ 18446744073709551615) (hf : x < p7 (f + 1)) : Calls Try.prog 81 #[.int .u64 x] w fun e w' => e = .returned (.string (str (enc x))) ∧ Below w.heap.size w w' := by
  induction f generalizing x w with
  | zero => exact bytes_lo x w x0 (by simp only [p7] at hf; omega)
  | succ f ih =>
    by_cases h : x < 128
    · exact bytes_lo x w x0 h
    · have HI : Hid (∀ W, Calls Try.prog 81 #[.int .u64 (IntKind.u64.wrap (x.tdiv 128))] W fun e w' => e = .returned (.string (str (enc (x / 128)))) ∧ Below W.heap.size W w') :=
        Lib.hid (fun W => by rw [IntWalk.u64_quo x 128 ⟨x0, by omega, by omega⟩]; exact ih (x / 128) W (by omega) (by omega) (div_lt_p7 x (f + 1) hf))
      clear ih
      have hE := enc_ge x (by omega) x1
      have hc : IntKind.u8.wrap (IntKind.u8.wrap (x.tmod 128) + 128) = x % 128 + 128 := by
        rw [Int.tmod_eq_emod_of_nonneg x0, u8_wrap, u8_wrap]; omega
      have hM : str (enc x) = str [x % 128 + 128] ++ str (enc (x / 128)) := by rw [hE, str_append]; rfl
      have HM := Lib.hid hM
      clear hf hM hc hE
      have hd1 : Below w.heap.size w w.drew := (Below.refl _ _).drew
      obtain ⟨c, hc⟩ : ∃ c, c = IntKind.u8.wrap (IntKind.u8.wrap (x.tmod 128) + 128) := ⟨_, rfl⟩
      have HB := Lib.hid (fun W => bytes_built W c)
      have hs := run_str (w.alloc (.cells #[.int .u8 c] 5)).drew _ _ ((HB.out w).below ((Below.refl _ _).drew))
      rw [hc] at hs
      have hz1 : (str [IntKind.u8.wrap (IntKind.u8.wrap (x.tmod 128) + 128)]).size = 1 := str_size _
      have hz2 : (str (enc (x / 128))).size ≤ 10 := by rw [str_size]; exact (enc_len _).2
      go_enter Try.func81, Try.ntmps81
      go_wp2_with fail
      go_region_with (go_at_call 81; refine (HI.out _).mono ?_; rintro e w2 ⟨rfl, hb2⟩; have hs2 := run_str _ _ _ (HB.out w2); rw [hc] at hs2; first | (have hs3 := run_str _ _ _ (((HB.out w).below ((Below.refl _ _).drew)).below (hc ▸ hb2)); rw [hc] at hs3) | skip)
      all_goals
        go_wp2_with fail
        go_ret
        refine ⟨by rw [HM.out]; rfl, ?_⟩
        first
          | exact Below.trans (((Below.refl _ _).alloc (Nat.le_refl _) _).drew) (hb2.mono (by simp))
          | exact (hd1.trans hb2).alloc (hd1.trans hb2).size _
          | exact hd1.trans hb2
theorem rbytes_any (x : Int) (w : World) (x0 : 0 ≤ x) (x1 : x ≤ 18446744073709551615) : Calls Try.prog 81 #[.int .u64 x] w fun e w' => e = .returned (.string (str (enc x))) ∧ Below w.heap.size w w' :=
  rbytes_f 9 x w x0 x1 (by have := p7_top.1; simp only [Nat.reduceAdd]; omega)
end Go.Proofs.Ytbkodaijigcebaa
/- Contracts of varint's placed and first: what is wrong with a scan ahead of any number, and what a text begins with. -/
namespace Go.Proofs.Ytbkodaijigcebaa
open Go.RowKit
set_option maxRecDepth 20000
set_option linter.unusedVariables false
theorem bytesBad0 (t : ByteArray) (p q : Int) (hm : t.size ≤ maxLen) : bytesBad t p q 0 = restBad t p q := by
  unfold bytesBad restBad
  simp only [firstOf]
  by_cases h1 : q = 0
  · rw [if_pos h1, if_pos h1]
    by_cases h2 : placedV t p = 0
    · have h3 : 0 ≤ p ∧ p ≤ t.size := by
        unfold placedV at h2
        split at h2
        · assumption
        · cases h2
      have h4 : leftV t p 0 = 0 := by
        unfold leftV wrap64
        unfold maxLen at hm
        rw [if_neg (by omega)]
      rw [if_pos h2, if_pos h2, h4]
      simp [countedV]
    · rw [if_neg h2, if_neg h2]
  · rw [if_neg h1, if_neg h1]
theorem restBad_ok (t : ByteArray) (p q : Int) (h : restBad t p q = 0) : q = 0 ∧ 0 ≤ p ∧ p ≤ t.size := by
  unfold restBad at h
  simp only [firstOf] at h
  split at h
  · rename_i h1
    split at h
    · rename_i h2
      unfold placedV at h2
      split at h2
      · exact ⟨h1, by assumption⟩
      · cases h2
    · contradiction
  · contradiction
theorem vplaced_any (t : ByteArray) (p q : Int) (w : World) (hm : t.size ≤ maxLen) : Calls Try.prog 87 #[.agg #[.string t, .int .i64 p, .int .i64 q]] w
    fun e w' => e = .returned (.agg #[.string t, .int .i64 p, .int .i64 (restBad t p q)]) ∧ Below w.heap.size w w' := by
  have hb0 := bytesBad0 t p q hm
  obtain ⟨r, hr⟩ : ∃ r, restBad t p q = r := ⟨_, rfl⟩
  rw [hr] at hb0 ⊢
  by_cases h : r = 0
  · subst h
    obtain ⟨rfl, p0, p1⟩ := restBad_ok t p q hr
    have HM := Lib.hid hm; clear hm hr
    have H0 := Lib.hid hb0; clear hb0
    go_enter Try.func87, Try.ntmps87
    go_wp2_with fail
    refine (bytes_yes t p 0 _ HM.out H0.out p0 (by omega) (by omega)).mono ?_
    rintro e w1 ⟨rfl, hb⟩
    have hz : w.heap.size + 2 ≤ w1.heap.size := by have := hb.size; simp at this; omega
    have hbw : Below w.heap.size w w1 := Below.trans (by go_grown) (hb.mono (by simp; omega))
    have f0 : ∀ o, w1.frozen? ⟨w.heap.size, o, none⟩ = false := fun o => ((bcell hb).2 _ _ (by simp; omega)).trans (by simp [go_sem])
    have f1 : ∀ o, w1.frozen? ⟨w.heap.size + 1, o, none⟩ = false := fun o => ((bcell hb).2 _ _ (by simp)).trans (by simp [go_sem])
    have c0 : w1.cell? ⟨w.heap.size, 0, none⟩ = some (.string t) := ((bcell hb).1 _ _ (by simp; omega)).trans (by simp [go_sem])
    have c1 : w1.cell? ⟨w.heap.size, 1, none⟩ = some (.int .i64 p) := ((bcell hb).1 _ _ (by simp; omega)).trans (by simp [go_sem])
    have c2 : w1.cell? ⟨w.heap.size, 2, none⟩ = some (.int .i64 0) := ((bcell hb).1 _ _ (by simp; omega)).trans (by simp [go_sem])
    have c3 : w1.cell? ⟨w.heap.size + 1, 0, none⟩ = some (.string { data := #[] }) := ((bcell hb).1 _ _ (by simp)).trans (by simp [go_sem])
    have c4 : w1.cell? ⟨w.heap.size + 1, 1, none⟩ = some (.int .i64 0) := ((bcell hb).1 _ _ (by simp)).trans (by simp [go_sem])
    have c5 : w1.cell? ⟨w.heap.size + 1, 2, none⟩ = some (.int .i64 0) := ((bcell hb).1 _ _ (by simp)).trans (by simp [go_sem])
    clear hb
    have hp : p + 0 = p := by omega
    rw [hp]
    go_wp2_with fail
    refine bodyPost_ret (v := .agg #[.string t, .int .i64 p, .int .i64 0]) (by simp [results, Try.results87, go_sem, c3, c4, c5]) rfl ⟨rfl, ?_⟩
    go_grown
  · have hb1 := bytes_no t p q 0
    rw [hb0] at hb1
    have HB := Lib.hid (fun w => hb1 w h); clear hb1 hb0 hm h hr
    go_enter Try.func87, Try.ntmps87
    go_wp2_with fail
    refine (HB.out _).mono ?_
    rintro e w1 ⟨rfl, hb⟩
    have hz : w.heap.size + 2 ≤ w1.heap.size := by have := hb.size; simp at this; omega
    have hbw : Below w.heap.size w w1 := Below.trans (by go_grown) (hb.mono (by simp; omega))
    have f0 : ∀ o, w1.frozen? ⟨w.heap.size, o, none⟩ = false := fun o => ((bcell hb).2 _ _ (by simp; omega)).trans (by simp [go_sem])
    have f1 : ∀ o, w1.frozen? ⟨w.heap.size + 1, o, none⟩ = false := fun o => ((bcell hb).2 _ _ (by simp)).trans (by simp [go_sem])
    have c0 : w1.cell? ⟨w.heap.size, 0, none⟩ = some (.string t) := ((bcell hb).1 _ _ (by simp; omega)).trans (by simp [go_sem])
    have c1 : w1.cell? ⟨w.heap.size, 1, none⟩ = some (.int .i64 p) := ((bcell hb).1 _ _ (by simp; omega)).trans (by simp [go_sem])
    have c2 : w1.cell? ⟨w.heap.size, 2, none⟩ = some (.int .i64 q) := ((bcell hb).1 _ _ (by simp; omega)).trans (by simp [go_sem])
    have c3 : w1.cell? ⟨w.heap.size + 1, 0, none⟩ = some (.string { data := #[] }) := ((bcell hb).1 _ _ (by simp)).trans (by simp [go_sem])
    have c4 : w1.cell? ⟨w.heap.size + 1, 1, none⟩ = some (.int .i64 0) := ((bcell hb).1 _ _ (by simp)).trans (by simp [go_sem])
    have c5 : w1.cell? ⟨w.heap.size + 1, 2, none⟩ = some (.int .i64 0) := ((bcell hb).1 _ _ (by simp)).trans (by simp [go_sem])
    clear hb
    go_wp2_with fail
    refine bodyPost_ret (v := .agg #[.string t, .int .i64 p, .int .i64 r]) (by simp [results, Try.results87, go_sem, c3, c4, c5]) rfl ⟨rfl, ?_⟩
    go_grown
end Go.Proofs.Ytbkodaijigcebaa
/- The contract of varint's first: the number with which a text begins and how many bytes it has, or what is wrong with it. -/
namespace Go.Proofs.Ytbkodaijigcebaa
open Go.RowKit
set_option maxRecDepth 20000
set_option linter.unusedVariables false
theorem ret3 {k l m : IntKind} {a b c d e f : Int} (h : a = b) (g : c = d) (i : e = f) : Ending.returned (.tuple #[.int k a, .int l c, .int m e]) = .returned (.tuple #[.int k b, .int l d, .int m f]) := by rw [h, g, i]
def fstX (l : List UInt8) : Int := if errV l = 0 then valV l else 0
def fstN (l : List UInt8) : Int := if errV l = 0 then cntV l else 0
theorem fst_ok (l : List UInt8) (h : errV l = 0) : fstX l = valV l ∧ fstN l = cntV l := by unfold fstX fstN; rw [if_pos h, if_pos h]; exact ⟨rfl, rfl⟩
theorem fst_no (l : List UInt8) (e : Int) (he : errV l = e) (h : e ≠ 0) : fstX l = 0 ∧ fstN l = 0 := by unfold fstX fstN; rw [if_neg (by omega), if_neg (by omega)]; exact ⟨rfl, rfl⟩
theorem list_at (t : ByteArray) (k : Nat) (h : k < t.size) : t.data.toList.getD k 0 = t[k] := by
  have : k < t.data.size := h
  simp [List.getD, Array.getElem?_eq_getElem this]; rfl
theorem two_pow7 (k : Nat) : (2 : Int) ^ (7 * k) = p7 k := by rw [← two7]; simp
theorem or7 (k : Nat) (y c : Int) (y0 : 0 ≤ y) (y1 : y < p7 k) (c0 : 0 ≤ c) (c1 : c * p7 k < 18446744073709551616) (y2 : y < 18446744073709551616) : bits BinOp.or IntKind.u64 y (c * p7 k) = y + c * p7 k := by
  have hp := p7_pos k
  have hz : 0 ≤ c * p7 k := Int.mul_nonneg c0 (by omega)
  rw [u64_or _ _ y0 y2 hz c1]
  have e := two7 k
  have h1 : (c * p7 k).toNat = c.toNat * 2 ^ (7 * k) := by
    rw [← e]
    have : c = (c.toNat : Int) := by omega
    rw [this, ← Int.natCast_mul, Int.toNat_natCast, Int.toNat_natCast]
  have h2 : y.toNat < 2 ^ (7 * k) := by omega
  rw [Nat.or_comm, nat_join (7 * k) _ _ (by rw [h1]; exact Nat.mul_mod_left _ _) h2]
  omega
theorem or7w (k : Nat) (y c : Int) (y0 : 0 ≤ y) (y1 : y < p7 k) (c0 : 0 ≤ c) (c1 : c * p7 k < 18446744073709551616) (y2 : y < 18446744073709551616) : bits BinOp.or IntKind.u64 y (IntKind.u64.wrap (c * 2 ^ (7 * k))) = y + c * p7 k := by
  have hz : 0 ≤ c * p7 k := Int.mul_nonneg c0 (by have := p7_pos k; omega)
  rw [two_pow7, IntWalk.u64_in _ (by omega), or7 k y c y0 y1 c0 c1 y2]
theorem stop_at (l : List UInt8) (k : Nat) (c : Nat) (hk : k ≤ lead 10 l) (hlt : k < l.length) (h10 : k < 10) (hc : (l.getD k 0).toNat = c) (h : c < 128) :
    (k = 9 ∧ 1 < c → errV l = 11) ∧ (¬ (k = 9 ∧ 1 < c) → 0 < k ∧ c = 0 → errV l = 4) ∧ (¬ (k = 9 ∧ 1 < c) → ¬ (0 < k ∧ c = 0) → errV l = 0 ∧ cntV l = k + 1 ∧ valV l = numV (l.take k) + c * p7 k ∧ numV (l.take k) < p7 k ∧ 0 ≤ numV (l.take k) ∧ (c : Int) * p7 k < 18446744073709551616 ∧ numV (l.take k) < 18446744073709551616) := by
  have hl := lead_at l k hk (by omega)
  have he : errV l = if k = 10 then 11 else if k = l.length then 3 else if k = 9 ∧ 1 < c then 11 else if 0 < k ∧ c = 0 then 4 else 0 := by
    unfold errV; rw [hl, hc]
  rw [if_neg (by omega), if_neg (by omega)] at he
  refine ⟨fun a => by rw [he, if_pos a], fun a b => by rw [he, if_neg a, if_pos b], fun a b => ?_⟩
  have hb := numV_bd (l.take k)
  have hlen : (l.take k).length = k := by simp; omega
  rw [hlen] at hb
  have h9 := p7_mono k 9 (by omega)
  have ht := p7_top.2
  refine ⟨by rw [he, if_neg a, if_neg b], by unfold cntV; rw [hl]; simp, ?_, hb.2, hb.1, ?_, by omega⟩
  · unfold valV
    rw [hl, numV_take l k hlt, hc]
    congr 2
    omega
  · by_cases hk9 : k = 9
    · subst hk9; rw [ht]; omega
    · have h8 := p7_mono k 8 (by omega)
      have e8 : p7 8 = 72057594037927936 := by decide
      have : (c : Int) * p7 k ≤ 127 * p7 k := Int.mul_le_mul_of_nonneg_right (by omega) (by have := p7_pos k; omega)
      omega
/-- What is or-ed in one round. -/
theorem round_val (l : List UInt8) (k : Nat) (y : Int) (c : Nat) (hk : k ≤ lead 10 l) (hlt : k < l.length) (hc : (l.getD k 0).toNat = c) (h : 128 ≤ c) (hy : k ≤ 9 → y = numV (l.take k)) (h9 : k + 1 ≤ 9) : bits BinOp.or IntKind.u64 y (IntKind.u64.wrap (((c : Int) - 128) * 2 ^ (7 * k))) = numV (l.take (k + 1)) := by
  have hb := numV_bd (l.take k)
  have hlen : (l.take k).length = k := by simp; omega
  rw [hlen] at hb
  have hx := byte_lt (l.getD k 0)
  have h8 := p7_mono k 8 (by omega)
  have e8 : p7 8 = 72057594037927936 := by decide
  have : ((c : Int) - 128) * p7 k ≤ 127 * p7 k := Int.mul_le_mul_of_nonneg_right (by omega) (by have := p7_pos k; omega)
  rw [hy (by omega), or7w k _ _ hb.1 hb.2 (by omega) (by omega) (by omega), numV_take l k hlt, hc]
  congr 2
  omega
end Go.Proofs.Ytbkodaijigcebaa
/- The contract of varint's first: the number with which a text begins and how many bytes it has, or what is wrong with it. -/
namespace Go.Proofs.Ytbkodaijigcebaa
open Go.RowKit
set_option maxRecDepth 20000
set_option linter.unusedVariables false
set_option maxRecDepth 20000 in
theorem vfirst_any (t : ByteArray) (w : World) (hm : t.size ≤ maxLen) : Calls Try.prog 88 #[.string t] w fun e w' => e = .returned (.tuple #[.int .u64 (fstX t.data.toList), .int .i64 (fstN t.data.toList), .int .i64 (errV t.data.toList)]) ∧ w = w' := by
  unfold maxLen at hm
  obtain ⟨l, hl⟩ : ∃ l, t.data.toList = l := ⟨_, rfl⟩
  have hlen : l.length = t.size := by rw [← hl]; simp
  have hat : ∀ k (h : k < t.size), (l.getD k 0).toNat = t[k].toNat := fun k h => by rw [← hl, list_at t k h]
  rw [hl]
  have HAT := Lib.hid hat; have HLEN := Lib.hid hlen; clear hat hlen hl
  obtain ⟨X, hX⟩ : ∃ X, fstX l = X := ⟨_, rfl⟩
  obtain ⟨N, hN⟩ : ∃ N, fstN l = N := ⟨_, rfl⟩
  obtain ⟨E, hE⟩ : ∃ E, errV l = E := ⟨_, rfl⟩
  rw [hX, hN, hE]
  have HX := Lib.hid hX; have HN := Lib.hid hN; have HE := Lib.hid hE; clear hX hN hE
  go_enter Try.func88, Try.ntmps88
  go_wp2_with fail
  go_step3
  go_wp2_with fail
  go_step3
  go_wp2_with fail
  go_loop [5, 6] (fun x i => ∃ (k : Nat) (y : Int), k ≤ lead 10 l ∧ i = .int .i64 k ∧ x = .int .u64 y ∧ Hid (k ≤ 9 → y = numV (l.take k))) (fun _ i => 10 - (intOf i).toNat)
  case atStart => exact ⟨0, 0, Nat.zero_le _, rfl, rfl, Lib.hid (fun _ => by simp [numV])⟩
  case round =>
    obtain ⟨k, y, hk, rfl, rfl, HY⟩ := hrel
    have hll := lead_le 10 l
    by_cases h10 : k = 10
    · subst h10
      have HF : Hid (X = 0 ∧ N = 0 ∧ E = 11) := by
        have hl : lead 10 l = 10 := by omega
        have he : errV l = 11 := by unfold errV; rw [if_pos hl]
        have := fst_no l 11 he (by decide)
        exact Lib.hid ⟨by rw [← HX.out, this.1], by rw [← HN.out, this.2], by rw [← HE.out, he]⟩
      clear hll hk
      go_wp2_with fail
      try rw [Exit.noGoto_ret]
      go_ret3
      exact ⟨ret3 HF.out.1.symm HF.out.2.1.symm HF.out.2.2.symm, rfl⟩
    · by_cases hn : k = t.size
      · subst hn
        have HF : Hid (X = 0 ∧ N = 0 ∧ E = 3) := by
          have hl : lead 10 l = t.size := by have := HLEN.out; omega
          have he : errV l = 3 := by have := HLEN.out; unfold errV; rw [if_neg (by omega), if_pos (by omega)]
          have := fst_no l 3 he (by decide)
          exact Lib.hid ⟨by rw [← HX.out, this.1], by rw [← HN.out, this.2], by rw [← HE.out, he]⟩
        have hk9 : ((t.size : Int) == 10) = false := by simp; omega
        clear hll hk
        go_wp2_with fail
        try rw [Exit.noGoto_ret]
        go_ret3
        exact ⟨ret3 HF.out.1.symm HF.out.2.1.symm HF.out.2.2.symm, rfl⟩
      · have hlt : k < t.size := by have := HLEN.out; omega
        have h10' : k < 10 := by omega
        have hk0 : (0 : Int) ≤ (k : Int) := Int.natCast_nonneg _
        have hk1 : (k : Int) < (t.size : Int) := by omega
        have hk9 : ((k : Int) == 10) = false := by simp; omega
        have hkt : ((k : Int) == (t.size : Int)) = false := by simp; omega
        have hca := HAT.out k hlt
        have hcb : t[k].toNat < 256 := byte_lt _
        by_cases hc : 128 ≤ t[k].toNat
        · have HK : Hid (k + 1 ≤ lead 10 l) := Lib.hid (lead_next 10 l k hk h10' (by rw [HLEN.out]; exact hlt) (by rw [hca]; exact hc))
          have HV : Hid (k + 1 ≤ 9 → bits BinOp.or IntKind.u64 y (IntKind.u64.wrap (((t[k].toNat : Int) - 128) * 2 ^ (7 * k))) = numV (l.take (k + 1))) :=
            Lib.hid (fun h9 => round_val l k y _ hk (by rw [HLEN.out]; exact hlt) hca hc HY.out h9)
          have hw8 : IntKind.u8.wrap ((t[k].toNat : Int) - 128) = (t[k].toNat : Int) - 128 := IntWalk.u8_in _ (by omega)
          clear HY hca hll hk
          go_wp2_with fail
          exact ⟨⟨k + 1, _, HK.out, by go_num, rfl, HV⟩, by simp [intOf]; omega⟩
        · have HS := Lib.hid (stop_at l k _ hk (by rw [HLEN.out]; exact hlt) h10' hca (by omega))
          clear hca hll hk
          by_cases hA : k = 9 ∧ 1 < t[k].toNat
          · have HF : Hid (X = 0 ∧ N = 0 ∧ E = 11) := by
              have he := HS.out.1 hA
              have := fst_no l 11 he (by decide)
              exact Lib.hid ⟨by rw [← HX.out, this.1], by rw [← HN.out, this.2], by rw [← HE.out, he]⟩
            clear HS
            obtain ⟨rfl, hA2⟩ := hA
            go_wp2_with fail
            try rw [Exit.noGoto_ret]
            go_ret3
            exact ⟨ret3 HF.out.1.symm HF.out.2.1.symm HF.out.2.2.symm, rfl⟩
          · by_cases hB : 0 < k ∧ t[k].toNat = 0
            · have HF : Hid (X = 0 ∧ N = 0 ∧ E = 4) := by
                have he := HS.out.2.1 hA hB
                have := fst_no l 4 he (by decide)
                exact Lib.hid ⟨by rw [← HX.out, this.1], by rw [← HN.out, this.2], by rw [← HE.out, he]⟩
              clear HS
              obtain ⟨hB1, hB2⟩ := hB
              have hc0 : ((t[k].toNat : Int) == 0) = true := by simp; omega
              have hc1 : decide (1 < (t[k].toNat : Int)) = false := by simp; omega
              by_cases h9 : k = 9
              · subst h9
                go_wp2_with fail
                try rw [Exit.noGoto_ret]
                go_ret3
                exact ⟨ret3 HF.out.1.symm HF.out.2.1.symm HF.out.2.2.symm, rfl⟩
              · have h9' : ((k : Int) == 9) = false := by simp; omega
                go_wp2_with fail
                try rw [Exit.noGoto_ret]
                go_ret3
                exact ⟨ret3 HF.out.1.symm HF.out.2.1.symm HF.out.2.2.symm, rfl⟩
            · have hs := HS.out.2.2 hA hB
              have hy := HY.out (by omega)
              have hf := fst_ok l hs.1
              have HF : Hid (X = y + t[k].toNat * p7 k ∧ N = (k : Int) + 1 ∧ E = 0) :=
                Lib.hid ⟨by rw [← HX.out, hf.1, hs.2.2.1, ← hy], by rw [← HN.out, hf.2, hs.2.1], by rw [← HE.out, hs.1]⟩
              obtain ⟨_, _, _, q1, q2, q3, q4⟩ := hs
              rw [← hy] at q1 q2 q4
              have HQ := Lib.hid (And.intro q1 (And.intro q2 (And.intro q3 q4)))
              clear HS q1 q2 q3 q4 hf hy HY
              by_cases h9 : k = 9
              · subst h9
                have hc0 : ((t[9].toNat : Int) == 0) = false := by simp; omega
                have hc1 : (t[9].toNat : Int) ≤ 1 := by omega
                go_wp2_with fail
                try rw [Exit.noGoto_ret]
                go_ret3
                refine ⟨ret3 ?_ HF.out.2.1.symm HF.out.2.2.symm, rfl⟩
                rw [HF.out.1]
                have := or7 9 y t[9].toNat HQ.out.2.1 HQ.out.1 (by omega) HQ.out.2.2.1 HQ.out.2.2.2
                rw [← this, p7_top.2]
              · have h9' : ((k : Int) == 9) = false := by simp; omega
                have hd : (decide (0 < (k : Int)) && ((t[k].toNat : Int) == 0)) = false := by simp; omega
                by_cases hk00 : k = 0
                · subst hk00
                  go_wp2_with fail
                  try rw [Exit.noGoto_ret]
                  go_ret3
                  refine ⟨ret3 ?_ HF.out.2.1.symm HF.out.2.2.symm, rfl⟩
                  rw [HF.out.1]
                  have := or7 0 y t[0].toNat HQ.out.2.1 HQ.out.1 (by omega) HQ.out.2.2.1 HQ.out.2.2.2
                  rw [← this]
                  simp [p7]
                · have hc0 : ((t[k].toNat : Int) == 0) = false := by simp; omega
                  have hkp : 0 < k := by omega
                  go_wp2_with fail
                  try rw [Exit.noGoto_ret]
                  go_ret3
                  refine ⟨ret3 ?_ HF.out.2.1.symm HF.out.2.2.symm, rfl⟩
                  rw [HF.out.1]
                  exact or7w k y t[k].toNat HQ.out.2.1 HQ.out.1 (by omega) HQ.out.2.2.1 HQ.out.2.2.2
end Go.Proofs.Ytbkodaijigcebaa
/- The contract of varint's Get, for every scan: the number and the scan behind it, or 0 and the scan with what is wrong. -/
namespace Go.Proofs.Ytbkodaijigcebaa
open Go.RowKit
set_option maxRecDepth 20000
set_option linter.unusedVariables false
/-- What is left of a text from p on. -/
def rst (t : ByteArray) (p : Int) : List UInt8 := t.data.toList.drop p.toNat
def getB (t : ByteArray) (p q : Int) : Int := if restBad t p q = 0 then errV (rst t p) else restBad t p q
def getX (t : ByteArray) (p q : Int) : Int := if getB t p q = 0 then valV (rst t p) else 0
def getP (t : ByteArray) (p q : Int) : Int := if getB t p q = 0 then p + cntV (rst t p) else p
theorem ext_rst (t : ByteArray) (p : Int) : (t.extract p.toNat t.size).data.toList = rst t p := by
  unfold rst
  rw [ByteArray.data_extract, Array.toList_extract, List.extract_eq_take_drop, List.take_of_length_le]
  simp
theorem rst_len (t : ByteArray) (p : Int) (p0 : 0 ≤ p) (p1 : p ≤ t.size) : ((rst t p).length : Int) = t.size - p := by
  unfold rst
  rw [List.length_drop]
  have : t.data.toList.length = t.size := by simp
  omega
theorem cnt_bd (t : ByteArray) (p : Int) (p0 : 0 ≤ p) (p1 : p ≤ t.size) (h : errV (rst t p) = 0) : 1 ≤ cntV (rst t p) ∧ p + cntV (rst t p) ≤ t.size ∧ cntV (rst t p) ≤ 10 := by
  have h1 := errV_ok _ h
  have h2 := rst_len t p p0 p1
  unfold cntV
  omega
/-- The results of Get lie where the call has made them. -/
def GetEnd (t : ByteArray) (x p q : Int) (w : World) (e : Ending) (w' : World) : Prop := e = .returned (.tuple #[.int .u64 x, .agg #[.string t, .int .i64 p, .int .i64 q]]) ∧ Below w.heap.size w w'
theorem get_1 (t : ByteArray) (p q r : Int) (w : World) (hm : t.size ≤ maxLen) (hr : restBad t p q = r) (h : r ≠ 0) : Calls Try.prog 71 #[.agg #[.string t, .int .i64 p, .int .i64 q]] w (GetEnd t 0 p r w) := by
  have HV := Lib.hid (fun W => hr ▸ vplaced_any t p q W hm)
  have hne : (r != 0) = true := by simp only [bne_iff_ne, ne_eq]; exact h
  clear hr h hm
  go_enter Try.func71, Try.ntmps71
  go_wp2_with fail
  refine (HV.out _).mono ?_
  rintro e w1 ⟨rfl, hb⟩
  have hz : w.heap.size + 2 ≤ w1.heap.size := by have := hb.size; simp at this; omega
  have hbw : Below w.heap.size w w1 := Below.trans (by go_grown) (hb.mono (by simp; omega))
  have f0 : ∀ o, w1.frozen? ⟨w.heap.size, o, none⟩ = false := fun o => ((bcell hb).2 _ _ (by simp; omega)).trans (by simp [go_sem])
  have f1 : ∀ o, w1.frozen? ⟨w.heap.size + 1, o, none⟩ = false := fun o => ((bcell hb).2 _ _ (by simp)).trans (by simp [go_sem])
  have c0 : w1.cell? ⟨w.heap.size, 0, none⟩ = some (.string t) := ((bcell hb).1 _ _ (by simp; omega)).trans (by simp [go_sem])
  have c1 : w1.cell? ⟨w.heap.size, 1, none⟩ = some (.int .i64 p) := ((bcell hb).1 _ _ (by simp; omega)).trans (by simp [go_sem])
  have c2 : w1.cell? ⟨w.heap.size, 2, none⟩ = some (.int .i64 q) := ((bcell hb).1 _ _ (by simp; omega)).trans (by simp [go_sem])
  have c3 : w1.cell? ⟨w.heap.size + 1, 0, none⟩ = some (.string { data := #[] }) := ((bcell hb).1 _ _ (by simp)).trans (by simp [go_sem])
  have c4 : w1.cell? ⟨w.heap.size + 1, 1, none⟩ = some (.int .i64 0) := ((bcell hb).1 _ _ (by simp)).trans (by simp [go_sem])
  have c5 : w1.cell? ⟨w.heap.size + 1, 2, none⟩ = some (.int .i64 0) := ((bcell hb).1 _ _ (by simp)).trans (by simp [go_sem])
  clear hb HV
  go_wp2_with fail
  go_region
  all_goals
    go_wp2
    refine bodyPost_ret (v := .tuple #[.int .u64 0, .agg #[.string t, .int .i64 p, .int .i64 r]]) (by simp [results, Try.results71, go_sem, c3, c4, c5]) rfl ⟨rfl, ?_⟩
    go_grown
theorem get_2 (t : ByteArray) (p q r : Int) (w : World) (hm : t.size ≤ maxLen) (h0 : restBad t p q = 0) (hr : errV (rst t p) = r) (h : r ≠ 0) : Calls Try.prog 71 #[.agg #[.string t, .int .i64 p, .int .i64 q]] w (GetEnd t 0 p r w) := by
  have HV := Lib.hid (fun W => h0 ▸ vplaced_any t p q W hm)
  obtain ⟨rfl, p0, p1⟩ := restBad_ok t p q h0
  have hne : (r != 0) = true := by simp only [bne_iff_ne, ne_eq]; exact h
  have hzz : (t.extract p.toNat t.size).size ≤ maxLen := by simp; omega
  have HF : Hid (∀ W, Calls Try.prog 88 #[.string (t.extract p.toNat t.size)] W fun e w' => e = .returned (.tuple #[.int .u64 0, .int .i64 0, .int .i64 r]) ∧ W = w') := by
    apply Lib.hid
    intro W
    have := vfirst_any (t.extract p.toNat t.size) W hzz
    rw [ext_rst, hr, (fst_no _ r hr h).1, (fst_no _ r hr h).2] at this
    exact this
  have HM := Lib.hid hm
  have H0 := Lib.hid h0
  clear hr h hm hzz h0
  go_enter Try.func71, Try.ntmps71
  go_wp2_with fail
  refine (HV.out _).mono ?_
  rintro e w1 ⟨rfl, hb⟩
  have hz : w.heap.size + 2 ≤ w1.heap.size := by have := hb.size; simp at this; omega
  have hbw : Below w.heap.size w w1 := Below.trans (by go_grown) (hb.mono (by simp; omega))
  have f0 : ∀ o, w1.frozen? ⟨w.heap.size, o, none⟩ = false := fun o => ((bcell hb).2 _ _ (by simp; omega)).trans (by simp [go_sem])
  have f1 : ∀ o, w1.frozen? ⟨w.heap.size + 1, o, none⟩ = false := fun o => ((bcell hb).2 _ _ (by simp)).trans (by simp [go_sem])
  have c0 : w1.cell? ⟨w.heap.size, 0, none⟩ = some (.string t) := ((bcell hb).1 _ _ (by simp; omega)).trans (by simp [go_sem])
  have c1 : w1.cell? ⟨w.heap.size, 1, none⟩ = some (.int .i64 p) := ((bcell hb).1 _ _ (by simp; omega)).trans (by simp [go_sem])
  have c2 : w1.cell? ⟨w.heap.size, 2, none⟩ = some (.int .i64 0) := ((bcell hb).1 _ _ (by simp; omega)).trans (by simp [go_sem])
  have c3 : w1.cell? ⟨w.heap.size + 1, 0, none⟩ = some (.string { data := #[] }) := ((bcell hb).1 _ _ (by simp)).trans (by simp [go_sem])
  have c4 : w1.cell? ⟨w.heap.size + 1, 1, none⟩ = some (.int .i64 0) := ((bcell hb).1 _ _ (by simp)).trans (by simp [go_sem])
  have c5 : w1.cell? ⟨w.heap.size + 1, 2, none⟩ = some (.int .i64 0) := ((bcell hb).1 _ _ (by simp)).trans (by simp [go_sem])
  clear hb HV
  go_wp2_with fail
  refine (rest_yes t p _ HM.out H0.out p0 p1).mono ?_
  rintro e w2 ⟨rfl, hb⟩
  have hz2 : w1.heap.size ≤ w2.heap.size := by have := hb.size; simp only [World.size_setCell] at this; exact this
  have hbw2 : Below w.heap.size w w2 := Below.trans (by go_grown) (hb.mono (by simp only [World.size_setCell]; omega))
  have g0 : ∀ o, w2.frozen? ⟨w.heap.size, o, none⟩ = false := fun o => ((bcell hb).2 _ _ (by simp only [World.size_setCell]; omega)).trans (by simp [go_sem, f0])
  have g1 : ∀ o, w2.frozen? ⟨w.heap.size + 1, o, none⟩ = false := fun o => ((bcell hb).2 _ _ (by simp only [World.size_setCell]; omega)).trans (by simp [go_sem, f1])
  have d0 : w2.cell? ⟨w.heap.size, 0, none⟩ = some (.string t) := ((bcell hb).1 _ _ (by simp only [World.size_setCell]; omega)).trans (by simp [go_sem, c0])
  have d1 : w2.cell? ⟨w.heap.size, 1, none⟩ = some (.int .i64 p) := ((bcell hb).1 _ _ (by simp only [World.size_setCell]; omega)).trans (by simp [go_sem, c1])
  have d2 : w2.cell? ⟨w.heap.size, 2, none⟩ = some (.int .i64 0) := ((bcell hb).1 _ _ (by simp only [World.size_setCell]; omega)).trans (by simp [go_sem, c2])
  have d3 : w2.cell? ⟨w.heap.size + 1, 0, none⟩ = some (.string { data := #[] }) := ((bcell hb).1 _ _ (by simp only [World.size_setCell]; omega)).trans (by simp [go_sem, c3])
  have d4 : w2.cell? ⟨w.heap.size + 1, 1, none⟩ = some (.int .i64 0) := ((bcell hb).1 _ _ (by simp only [World.size_setCell]; omega)).trans (by simp [go_sem, c4])
  have d5 : w2.cell? ⟨w.heap.size + 1, 2, none⟩ = some (.int .i64 0) := ((bcell hb).1 _ _ (by simp only [World.size_setCell]; omega)).trans (by simp [go_sem, c5])
  clear hb c0 c1 c2 c3 c4 c5 f0 f1 hbw
  go_wp2_with fail
  refine (HF.out _).mono ?_
  rintro e w3 ⟨rfl, rfl⟩
  clear HF
  go_wp2_with fail
  go_region
  all_goals
    go_wp2
    refine bodyPost_ret (v := .tuple #[.int .u64 0, .agg #[.string t, .int .i64 p, .int .i64 r]]) (by simp [results, Try.results71, go_sem, d3, d4, d5]) rfl ⟨rfl, ?_⟩
    go_grown
theorem get_3 (t : ByteArray) (p q x n : Int) (w : World) (hm : t.size ≤ maxLen) (h0 : restBad t p q = 0) (hr : errV (rst t p) = 0) (hx : valV (rst t p) = x) (hn : cntV (rst t p) = n) : Calls Try.prog 71 #[.agg #[.string t, .int .i64 p, .int .i64 q]] w (GetEnd t x (p + n) 0 w) := by
  have HV := Lib.hid (fun W => h0 ▸ vplaced_any t p q W hm)
  obtain ⟨rfl, p0, p1⟩ := restBad_ok t p q h0
  have hcb := cnt_bd t p p0 p1 hr
  rw [hn] at hcb
  have hzz : (t.extract p.toNat t.size).size ≤ maxLen := by simp; omega
  have HF : Hid (∀ W, Calls Try.prog 88 #[.string (t.extract p.toNat t.size)] W fun e w' => e = .returned (.tuple #[.int .u64 x, .int .i64 n, .int .i64 0]) ∧ W = w') := by
    apply Lib.hid
    intro W
    have := vfirst_any (t.extract p.toNat t.size) W hzz
    rw [ext_rst, hr, (fst_ok _ hr).1, (fst_ok _ hr).2, hx, hn] at this
    exact this
  have HM := Lib.hid hm
  have H0 := Lib.hid h0
  have hm63 := hm
  unfold maxLen at hm63
  clear hr hm hzz h0 hx hn
  obtain ⟨n0, n1, n2⟩ := hcb
  go_enter Try.func71, Try.ntmps71
  go_wp2_with fail
  refine (HV.out _).mono ?_
  rintro e w1 ⟨rfl, hb⟩
  have hz : w.heap.size + 2 ≤ w1.heap.size := by have := hb.size; simp at this; omega
  have hbw : Below w.heap.size w w1 := Below.trans (by go_grown) (hb.mono (by simp; omega))
  have f0 : ∀ o, w1.frozen? ⟨w.heap.size, o, none⟩ = false := fun o => ((bcell hb).2 _ _ (by simp; omega)).trans (by simp [go_sem])
  have f1 : ∀ o, w1.frozen? ⟨w.heap.size + 1, o, none⟩ = false := fun o => ((bcell hb).2 _ _ (by simp)).trans (by simp [go_sem])
  have c0 : w1.cell? ⟨w.heap.size, 0, none⟩ = some (.string t) := ((bcell hb).1 _ _ (by simp; omega)).trans (by simp [go_sem])
  have c1 : w1.cell? ⟨w.heap.size, 1, none⟩ = some (.int .i64 p) := ((bcell hb).1 _ _ (by simp; omega)).trans (by simp [go_sem])
  have c2 : w1.cell? ⟨w.heap.size, 2, none⟩ = some (.int .i64 0) := ((bcell hb).1 _ _ (by simp; omega)).trans (by simp [go_sem])
  have c3 : w1.cell? ⟨w.heap.size + 1, 0, none⟩ = some (.string { data := #[] }) := ((bcell hb).1 _ _ (by simp)).trans (by simp [go_sem])
  have c4 : w1.cell? ⟨w.heap.size + 1, 1, none⟩ = some (.int .i64 0) := ((bcell hb).1 _ _ (by simp)).trans (by simp [go_sem])
  have c5 : w1.cell? ⟨w.heap.size + 1, 2, none⟩ = some (.int .i64 0) := ((bcell hb).1 _ _ (by simp)).trans (by simp [go_sem])
  clear hb HV
  go_wp2_with fail
  refine (rest_yes t p _ HM.out H0.out p0 p1).mono ?_
  rintro e w2 ⟨rfl, hb⟩
  have hz2 : w1.heap.size ≤ w2.heap.size := by have := hb.size; simp only [World.size_setCell] at this; exact this
  have hbw2 : Below w.heap.size w w2 := Below.trans (by go_grown) (hb.mono (by simp only [World.size_setCell]; omega))
  have g0 : ∀ o, w2.frozen? ⟨w.heap.size, o, none⟩ = false := fun o => ((bcell hb).2 _ _ (by simp only [World.size_setCell]; omega)).trans (by simp [go_sem, f0])
  have g1 : ∀ o, w2.frozen? ⟨w.heap.size + 1, o, none⟩ = false := fun o => ((bcell hb).2 _ _ (by simp only [World.size_setCell]; omega)).trans (by simp [go_sem, f1])
  have d0 : w2.cell? ⟨w.heap.size, 0, none⟩ = some (.string t) := ((bcell hb).1 _ _ (by simp only [World.size_setCell]; omega)).trans (by simp [go_sem, c0])
  have d1 : w2.cell? ⟨w.heap.size, 1, none⟩ = some (.int .i64 p) := ((bcell hb).1 _ _ (by simp only [World.size_setCell]; omega)).trans (by simp [go_sem, c1])
  have d2 : w2.cell? ⟨w.heap.size, 2, none⟩ = some (.int .i64 0) := ((bcell hb).1 _ _ (by simp only [World.size_setCell]; omega)).trans (by simp [go_sem, c2])
  have d3 : w2.cell? ⟨w.heap.size + 1, 0, none⟩ = some (.string { data := #[] }) := ((bcell hb).1 _ _ (by simp only [World.size_setCell]; omega)).trans (by simp [go_sem, c3])
  have d4 : w2.cell? ⟨w.heap.size + 1, 1, none⟩ = some (.int .i64 0) := ((bcell hb).1 _ _ (by simp only [World.size_setCell]; omega)).trans (by simp [go_sem, c4])
  have d5 : w2.cell? ⟨w.heap.size + 1, 2, none⟩ = some (.int .i64 0) := ((bcell hb).1 _ _ (by simp only [World.size_setCell]; omega)).trans (by simp [go_sem, c5])
  clear hb c0 c1 c2 c3 c4 c5 f0 f1 hbw
  go_wp2_with fail
  refine (HF.out _).mono ?_
  rintro e w3 ⟨rfl, rfl⟩
  clear HF
  go_wp2_with fail
  go_region
  all_goals
    go_wp2
    refine bodyPost_ret (v := .tuple #[.int .u64 x, .agg #[.string t, .int .i64 (p + n), .int .i64 0]]) (by simp [results, Try.results71, go_sem, d3, d4, d5]) rfl ⟨rfl, ?_⟩
    go_grown
theorem get_any (t : ByteArray) (p q : Int) (w : World) (hm : t.size ≤ maxLen) : Calls Try.prog 71 #[.agg #[.string t, .int .i64 p, .int .i64 q]] w (GetEnd t (getX t p q) (getP t p q) (getB t p q) w) := by
  by_cases h0 : restBad t p q = 0
  · by_cases he : errV (rst t p) = 0
    · have hB : getB t p q = 0 := by unfold getB; rw [if_pos h0, he]
      have := get_3 t p q _ _ w hm h0 he rfl rfl
      unfold getX getP
      rw [hB, if_pos rfl, if_pos rfl]
      exact this
    · have hB : getB t p q = errV (rst t p) := by unfold getB; rw [if_pos h0]
      have := get_2 t p q _ w hm h0 rfl he
      unfold getX getP
      rw [hB, if_neg he, if_neg he]
      exact this
  · have hB : getB t p q = restBad t p q := by unfold getB; rw [if_neg h0]
    have := get_1 t p q _ w hm rfl h0
    unfold getX getP
    rw [hB, if_neg h0, if_neg h0]
    exact this
end Go.Proofs.Ytbkodaijigcebaa
/- Contracts of the document's own wrong, own and Back: what is wrong with the number with which a text begins, and a scan as the other side has it. -/
namespace Go.Proofs.Ytbkodaijigcebaa
open Go.RowKit
set_option maxRecDepth 20000
set_option linter.unusedVariables false
set_option maxRecDepth 20000 in
theorem wrong_any (t : ByteArray) (w : World) (hm : t.size ≤ maxLen) : Calls Try.prog 90 #[.string t] w fun e w' => e = .returned (.tuple #[.int .i64 (errV t.data.toList), .int .i64 (fstN t.data.toList)]) ∧ w = w' := by
  unfold maxLen at hm
  obtain ⟨l, hl⟩ : ∃ l, t.data.toList = l := ⟨_, rfl⟩
  have hlen : l.length = t.size := by rw [← hl]; simp
  have hat : ∀ k (h : k < t.size), (l.getD k 0).toNat = t[k].toNat := fun k h => by rw [← hl, list_at t k h]
  rw [hl]
  have HAT := Lib.hid hat; have HLEN := Lib.hid hlen; clear hat hlen hl
  obtain ⟨N, hN⟩ : ∃ N, fstN l = N := ⟨_, rfl⟩
  obtain ⟨E, hE⟩ : ∃ E, errV l = E := ⟨_, rfl⟩
  rw [hN, hE]
  have HN := Lib.hid hN; have HE := Lib.hid hE; clear hN hE
  go_enter Try.func90, Try.ntmps90
  go_wp2_with fail
  go_loop [4] (fun i => ∃ (k : Nat), k ≤ lead 10 l ∧ i = .int .i64 k) (fun i => 10 - (intOf i).toNat)
  case atStart => exact ⟨0, Nat.zero_le _, rfl⟩
  case round =>
    obtain ⟨k, hk, rfl⟩ := hrel
    have hll := lead_le 10 l
    by_cases h10 : k = 10
    · subst h10
      have HF : Hid (N = 0 ∧ E = 11) := by
        have hl : lead 10 l = 10 := by omega
        have he : errV l = 11 := by unfold errV; rw [if_pos hl]
        have := fst_no l 11 he (by decide)
        exact Lib.hid ⟨by rw [← HN.out, this.2], by rw [← HE.out, he]⟩
      have hlen := HLEN.out
      by_cases hz : t.size = 10
      · have hd : decide ((10 : Int) < (t.size : Int)) = false := by simp; omega
        clear hll hk
        go_wp2_with fail
        go_ret2
        exact ⟨ret2 HF.out.2.symm HF.out.1.symm, rfl⟩
      · have hd : (10 : Int) < (t.size : Int) := by omega
        clear hll hk
        go_wp2_with fail
        go_ret2
        exact ⟨ret2 HF.out.2.symm HF.out.1.symm, rfl⟩
    · have hk9 : ((k : Int) == 10) = false := by simp; omega
      by_cases hn : k = t.size
      · subst hn
        have HF : Hid (N = 0 ∧ E = 3) := by
          have hl : lead 10 l = t.size := by have := HLEN.out; omega
          have he : errV l = 3 := by have := HLEN.out; unfold errV; rw [if_neg (by omega), if_pos (by omega)]
          have := fst_no l 3 he (by decide)
          exact Lib.hid ⟨by rw [← HN.out, this.2], by rw [← HE.out, he]⟩
        clear hll hk
        go_wp2_with fail
        go_ret2
        exact ⟨ret2 HF.out.2.symm HF.out.1.symm, rfl⟩
      · have hlt : k < t.size := by have := HLEN.out; omega
        have h10' : k < 10 := by omega
        have hk0 : (0 : Int) ≤ (k : Int) := Int.natCast_nonneg _
        have hk1 : (k : Int) < (t.size : Int) := by omega
        have hk2 : (k : Int) < 10 := by omega
        have hkt : ((k : Int) == (t.size : Int)) = false := by simp; omega
        have hca := HAT.out k hlt
        have hcb : t[k].toNat < 256 := byte_lt _
        by_cases hc : 128 ≤ t[k].toNat
        · have HK : Hid (k + 1 ≤ lead 10 l) := Lib.hid (lead_next 10 l k hk h10' (by rw [HLEN.out]; exact hlt) (by rw [hca]; exact hc))
          clear hca hll hk
          go_wp2_with fail
          exact ⟨⟨k + 1, HK.out, by go_num⟩, by simp [intOf]; omega⟩
        · have HS := Lib.hid (stop_at l k _ hk (by rw [HLEN.out]; exact hlt) h10' hca (by omega))
          clear hca hll hk
          by_cases hA : k = 9 ∧ 1 < t[k].toNat
          · have HF : Hid (N = 0 ∧ E = 11) := by
              have he := HS.out.1 hA
              have := fst_no l 11 he (by decide)
              exact Lib.hid ⟨by rw [← HN.out, this.2], by rw [← HE.out, he]⟩
            clear HS
            obtain ⟨rfl, hA2⟩ := hA
            go_wp2_with fail
            go_ret2
            exact ⟨ret2 HF.out.2.symm HF.out.1.symm, rfl⟩
          · by_cases hB : 0 < k ∧ t[k].toNat = 0
            · have HF : Hid (N = 0 ∧ E = 4) := by
                have he := HS.out.2.1 hA hB
                have := fst_no l 4 he (by decide)
                exact Lib.hid ⟨by rw [← HN.out, this.2], by rw [← HE.out, he]⟩
              clear HS
              obtain ⟨hB1, hB2⟩ := hB
              have hc0 : ((t[k].toNat : Int) == 0) = true := by simp; omega
              have hc1 : (t[k].toNat : Int) ≤ 1 := by omega
              by_cases h9 : k = 9
              · subst h9
                go_wp2_with fail
                go_ret2
                exact ⟨ret2 HF.out.2.symm HF.out.1.symm, rfl⟩
              · have h9' : ((k : Int) == 9) = false := by simp; omega
                go_wp2_with fail
                go_ret2
                exact ⟨ret2 HF.out.2.symm HF.out.1.symm, rfl⟩
            · have hs := HS.out.2.2 hA hB
              have hf := fst_ok l hs.1
              have HF : Hid (N = (k : Int) + 1 ∧ E = 0) :=
                Lib.hid ⟨by rw [← HN.out, hf.2, hs.2.1], by rw [← HE.out, hs.1]⟩
              clear HS hs hf
              by_cases h9 : k = 9
              · subst h9
                have hc0 : ((t[9].toNat : Int) == 0) = false := by simp; omega
                have hc1 : (t[9].toNat : Int) ≤ 1 := by omega
                go_wp2_with fail
                go_ret2
                exact ⟨ret2 HF.out.2.symm HF.out.1.symm, rfl⟩
              · have h9' : ((k : Int) == 9) = false := by simp; omega
                by_cases hk00 : k = 0
                · subst hk00
                  go_wp2_with fail
                  go_ret2
                  exact ⟨ret2 HF.out.2.symm HF.out.1.symm, rfl⟩
                · have hc0 : ((t[k].toNat : Int) == 0) = false := by simp; omega
                  have hkp : 0 < k := by omega
                  go_wp2_with fail
                  go_ret2
                  exact ⟨ret2 HF.out.2.symm HF.out.1.symm, rfl⟩
end Go.Proofs.Ytbkodaijigcebaa
/- The contract of the document's own Get, for every scan: what the program's answers too. -/
namespace Go.Proofs.Ytbkodaijigcebaa
open Go.RowKit
set_option maxRecDepth 20000
set_option linter.unusedVariables false
theorem rget_1 (t : ByteArray) (p q : Int) (w : World) (h : q ≠ 0) : Calls Try.prog 83 #[.agg #[.string t, .int .i64 p, .int .i64 q]] w (GetEnd t 0 p q w) := by
  have hne : (q != 0) = true := by simp only [bne_iff_ne, ne_eq]; exact h
  clear h
  go_enter Try.func83, Try.ntmps83
  go_wp2_with fail
  go_region
  all_goals
    go_wp2
    refine bodyPost_ret (v := .tuple #[.int .u64 0, .agg #[.string t, .int .i64 p, .int .i64 q]]) (by simp [results, Try.results83, go_sem]) rfl ⟨rfl, ?_⟩
    go_grown
theorem rget_2 (t : ByteArray) (p : Int) (w : World) (h : p < 0 ∨ t.size < p) : Calls Try.prog 83 #[.agg #[.string t, .int .i64 p, .int .i64 0]] w (GetEnd t 0 p 2 w) := by
  rcases h with h | h
  · go_enter Try.func83, Try.ntmps83
    go_wp2_with fail
    go_region
    all_goals
      go_wp2
      refine bodyPost_ret (v := .tuple #[.int .u64 0, .agg #[.string t, .int .i64 p, .int .i64 2]]) (by simp [results, Try.results83, go_sem]) rfl ⟨rfl, ?_⟩
      go_grown
  · have h0 : 0 ≤ p := by omega
    go_enter Try.func83, Try.ntmps83
    go_wp2_with fail
    go_region
    all_goals
      go_wp2
      refine bodyPost_ret (v := .tuple #[.int .u64 0, .agg #[.string t, .int .i64 p, .int .i64 2]]) (by simp [results, Try.results83, go_sem]) rfl ⟨rfl, ?_⟩
      go_grown
theorem rget_3 (t : ByteArray) (p r : Int) (w : World) (hm : t.size ≤ maxLen) (p0 : 0 ≤ p) (p1 : p ≤ t.size) (hr : errV (rst t p) = r) (h : r ≠ 0) : Calls Try.prog 83 #[.agg #[.string t, .int .i64 p, .int .i64 0]] w (GetEnd t 0 p r w) := by
  have hne : (r != 0) = true := by simp only [bne_iff_ne, ne_eq]; exact h
  have hzz : (t.extract p.toNat t.size).size ≤ maxLen := by simp; omega
  have HF : Hid (∀ W, Calls Try.prog 90 #[.string (t.extract p.toNat t.size)] W fun e w' => e = .returned (.tuple #[.int .i64 r, .int .i64 0]) ∧ W = w') := by
    apply Lib.hid
    intro W
    have := wrong_any (t.extract p.toNat t.size) W hzz
    rw [ext_rst, hr, (fst_no _ r hr h).2] at this
    exact this
  unfold maxLen at hm
  clear hr h hzz
  go_enter Try.func83, Try.ntmps83
  go_wp2_with fail
  refine (HF.out _).mono ?_
  rintro e w3 ⟨rfl, rfl⟩
  clear HF
  go_wp2_with fail
  go_region
  all_goals
    go_wp2
    refine bodyPost_ret (v := .tuple #[.int .u64 0, .agg #[.string t, .int .i64 p, .int .i64 r]]) (by simp [results, Try.results83, go_sem]) rfl ⟨rfl, ?_⟩
    go_grown
/-- One round of the document's own sum. -/
theorem sum_step (t : ByteArray) (p : Int) (c k : Nat) (p0 : 0 ≤ p) (hk : 1 ≤ k) (hc : k ≤ c) (hp : p + c ≤ t.size) (h : (p + ((k : Int) - 1)).toNat < t.size) :
    numV (((rst t p).take c).drop (k - 1)) = ((t[(p + ((k : Int) - 1)).toNat].toNat : Int) % 128) + 128 * numV (((rst t p).take c).drop k) := by
  have hl : ((rst t p).length : Int) = t.size - p := rst_len t p p0 (by omega)
  have hL : ((rst t p).take c).length = c := by rw [List.length_take]; omega
  rw [numV_drop _ (k - 1) (by omega), show k - 1 + 1 = k from by omega]
  congr 2
  have e : (((rst t p).take c).getD (k - 1) 0) = t[(p + ((k : Int) - 1)).toNat] := by
    rw [← list_at t _ h]
    unfold rst
    have : p.toNat + (k - 1) = (p + ((k : Int) - 1)).toNat := by omega
    simp [List.getD, show k - 1 < c from by omega, this]
  rw [e]
theorem sum_bd (L : List UInt8) (k : Nat) (h : numV L ≤ 18446744073709551615) : 0 ≤ numV (L.drop k) ∧ numV (L.drop k) ≤ 18446744073709551615 := ⟨(numV_bd _).1, by have := numV_drop_le L k; omega⟩
theorem rget_4 (t : ByteArray) (p : Int) (w : World) (hm : t.size ≤ maxLen) (p0 : 0 ≤ p) (p1 : p ≤ t.size) (hr : errV (rst t p) = 0) : Calls Try.prog 83 #[.agg #[.string t, .int .i64 p, .int .i64 0]] w (GetEnd t (valV (rst t p)) (p + cntV (rst t p)) 0 w) := by
  have hcb := cnt_bd t p p0 p1 hr
  have hvb := valV_bd _ hr
  have hzz : (t.extract p.toNat t.size).size ≤ maxLen := by simp; omega
  obtain ⟨c, hc⟩ : ∃ c : Nat, cntV (rst t p) = c := ⟨_, rfl⟩
  have hcv : valV (rst t p) = numV ((rst t p).take c) := by
    have : lead 10 (rst t p) + 1 = c := by unfold cntV at hc; omega
    unfold valV; rw [this]
  have HF : Hid (∀ W, Calls Try.prog 90 #[.string (t.extract p.toNat t.size)] W fun e w' => e = .returned (.tuple #[.int .i64 0, .int .i64 c]) ∧ W = w') := by
    apply Lib.hid
    intro W
    have := wrong_any (t.extract p.toNat t.size) W hzz
    rw [ext_rst, hr, (fst_ok _ hr).2, hc] at this
    exact this
  have HS := Lib.hid (fun k => sum_step t p c k p0)
  rw [hcv] at hvb ⊢
  rw [hc] at hcb ⊢
  have HD := Lib.hid (fun k => sum_bd ((rst t p).take c) k hvb.2)
  clear hcv hc hr
  obtain ⟨cb0, cb1, cb2⟩ := hcb
  generalize hL : (rst t p).take c = L at *
  unfold maxLen at hm
  have hLl : L.length = c := by
    have hl : ((rst t p).length : Int) = t.size - p := rst_len t p p0 p1
    rw [← hL, List.length_take]; omega
  have HL := Lib.hid hLl
  clear hL hvb hzz hLl
  go_enter Try.func83, Try.ntmps83
  go_wp2_with fail
  refine (HF.out _).mono ?_
  rintro e w3 ⟨rfl, rfl⟩
  clear HF
  go_wp2_with fail
  go_loop [6, 7] (fun x i => ∃ k : Nat, k ≤ c ∧ i = .int .i64 ((k : Int) - 1) ∧ x = .int .u64 (numV (L.drop k))) (fun _ i => (intOf i + 1).toNat)
  case atStart => exact ⟨c, Nat.le_refl _, rfl, by rw [List.drop_of_length_le (by rw [HL.out]; exact Nat.le_refl _)]; rfl⟩
  case round =>
    obtain ⟨k, hk, rfl, rfl⟩ := hrel
    by_cases hlt : 1 ≤ k
    · have hs := HS.out k hlt hk cb1 (by omega)
      have hb1 := HD.out (k - 1)
      have hb2 := HD.out k
      generalize hy : numV (L.drop k) = y at *
      have hi0 : 0 ≤ p + ((k : Int) - 1) := by omega
      have hi1 : p + ((k : Int) - 1) < t.size := by omega
      rw [hs] at hb1
      obtain ⟨s0, s1⟩ := hb1
      obtain ⟨y0, y1⟩ := hb2
      have HS1 := Lib.hid hs
      have HY := Lib.hid hy
      clear hs hy
      go_wp2_with fail
      refine ⟨⟨k - 1, by omega, by congr 1; omega, by rw [HS1.out]; congr 1; omega⟩, by simp [intOf]; omega⟩
    · obtain rfl : k = 0 := by omega
      obtain ⟨y, hy⟩ : ∃ y, numV L = y := ⟨_, rfl⟩
      rw [List.drop_zero, hy]
      have HY := Lib.hid hy
      clear HS HD HL hy
      have hi0 : ((0 : Nat) : Int) - 1 = -1 := rfl
      go_wp2_with fail
      go_region
      all_goals
        go_wp2
        refine bodyPost_ret (v := .tuple #[.int .u64 y, .agg #[.string t, .int .i64 (p + c), .int .i64 0]]) (by simp [results, Try.results83, go_sem]) rfl ⟨by rw [HY.out], ?_⟩
        go_grown
theorem rget_any (t : ByteArray) (p q : Int) (w : World) (hm : t.size ≤ maxLen) : Calls Try.prog 83 #[.agg #[.string t, .int .i64 p, .int .i64 q]] w (GetEnd t (getX t p q) (getP t p q) (getB t p q) w) := by
  by_cases h0 : restBad t p q = 0
  · obtain ⟨rfl, p0, p1⟩ := restBad_ok t p q h0
    by_cases he : errV (rst t p) = 0
    · have hB : getB t p 0 = 0 := by unfold getB; rw [if_pos h0, he]
      have := rget_4 t p w hm p0 p1 he
      unfold getX getP
      rw [hB, if_pos rfl, if_pos rfl]
      exact this
    · have hB : getB t p 0 = errV (rst t p) := by unfold getB; rw [if_pos h0]
      have := rget_3 t p _ w hm p0 p1 rfl he
      unfold getX getP
      rw [hB, if_neg he, if_neg he]
      exact this
  · have hB : getB t p q = restBad t p q := by unfold getB; rw [if_neg h0]
    unfold getX getP
    rw [hB, if_neg h0, if_neg h0]
    by_cases hq : q = 0
    · subst hq
      have hp : p < 0 ∨ t.size < p := by
        by_cases hp : 0 ≤ p ∧ p ≤ t.size
        · exact absurd (by unfold restBad placedV; rw [if_pos hp]; rfl) h0
        · omega
      have e : restBad t p 0 = 2 := by unfold restBad placedV; rw [if_neg (by omega)]; rfl
      rw [e]
      exact rget_2 t p w hp
    · have e : restBad t p q = q := by unfold restBad; simp only [firstOf]; rw [if_neg hq]
      rw [e]
      exact rget_1 t p q w hq
end Go.Proofs.Ytbkodaijigcebaa
