/- Contracts of the document's own Bytes and All: the text of a number's bytes, and of all of them. -/
import Derived.Test.YtpjgemjceikhfaaL
namespace Go.Proofs.Ytpjgemjceikhfaa
open Go.RowKit
set_option linter.unusedVariables false
theorem bytes_built (w : World) (c : Int) : BytesAt (w.alloc (.cells #[.int .u8 c] 5)) (.slice (some ⟨w.heap.size, 0, none⟩) 1 1) [c] :=
  ⟨_, 1, rfl, Nat.le_refl _, by unfold maxLen; omega, fun _ => ⟨_, rfl, by simp, fun i hi => by
    have h0 : i = 0 := by simp at hi; exact hi
    subst h0
    rw [show (⟨w.heap.size, 0, none⟩ : Addr).add 0 = ⟨w.heap.size, 0, none⟩ from rfl, World.cell?_alloc_at _ _ _ _ rfl]; rfl⟩⟩
theorem bytes_lo (x : Int) (w : World) (x0 : 0 ≤ x) (x1 : x < 128) : Calls Try.prog 10 #[.int .u64 x] w fun e w' => e = .returned (.string (str (enc x))) ∧ Below w.heap.size w w' := by
  have hm : x % 256 = x := by omega
  have hs := run_str _ _ _ (bytes_built w x)
  have HE := Lib.hid (enc_lt x x1)
  go_enter Try.func10, Try.ntmps10
  go_wp2_with fail
  go_ret
  exact ⟨by rw [HE.out]; rfl, (Below.refl _ _).alloc (Nat.le_refl _) _⟩
theorem u8_wrap (n : Int) : IntKind.u8.wrap n = n % 256 := by
  simp only [IntKind.wrap, IntKind.bits, IntKind.signed, Bool.false_and, Int.reducePow]; simp
theorem rbytes_f (f : Nat) (x : Int) (w : World) (x0 : 0 ≤ x) (x1 : x ≤ 18446744073709551615) (hf : x < p7 (f + 1)) : Calls Try.prog 10 #[.int .u64 x] w fun e w' => e = .returned (.string (str (enc x))) ∧ Below w.heap.size w w' := by
  induction f generalizing x w with
  | zero => exact bytes_lo x w x0 (by simp only [p7] at hf; omega)
  | succ f ih =>
    by_cases h : x < 128
    · exact bytes_lo x w x0 h
    · have HI : Hid (∀ W, Calls Try.prog 10 #[.int .u64 (IntKind.u64.wrap (x.tdiv 128))] W fun e w' => e = .returned (.string (str (enc (x / 128)))) ∧ Below W.heap.size W w') :=
        Lib.hid (fun W => by rw [IntWalk.u64_quo x 128 ⟨x0, by omega, by omega⟩]; exact ih (x / 128) W (by omega) (by omega) (div_lt_p7 x (f + 1) hf))
      clear ih
      have hE := enc_ge x (by omega) x1
      have hc : IntKind.u8.wrap (IntKind.u8.wrap (x.tmod 128) + 128) = x % 128 + 128 := by
        rw [Int.tmod_eq_emod_of_nonneg x0, u8_wrap, u8_wrap]; omega
      have hM : str (enc x) = str [x % 128 + 128] ++ str (enc (x / 128)) := by rw [hE, str_append]; rfl
      have HM := Lib.hid hM
      clear hf hM hc hE
      have hd1 : Below w.heap.size w w.drew := (Below.refl _ _).drew
      obtain ⟨c, hc⟩ : ∃ c, c = IntKind.u8.wrap (IntKind.u8.wrap (x.tmod 128) + 128) := ⟨_, rfl⟩
      have HB := Lib.hid (fun W => bytes_built W c)
      have hs := run_str (w.alloc (.cells #[.int .u8 c] 5)).drew _ _ ((HB.out w).below ((Below.refl _ _).drew))
      rw [hc] at hs
      have hz1 : (str [IntKind.u8.wrap (IntKind.u8.wrap (x.tmod 128) + 128)]).size = 1 := str_size _
      have hz2 : (str (enc (x / 128))).size ≤ 10 := by rw [str_size]; exact (enc_len _).2
      go_enter Try.func10, Try.ntmps10
      go_wp2_with fail
      go_region_with (go_at_call 10; refine (HI.out _).mono ?_; rintro e w2 ⟨rfl, hb2⟩; have hs2 := run_str _ _ _ (HB.out w2); rw [hc] at hs2; first | (have hs3 := run_str _ _ _ (((HB.out w).below ((Below.refl _ _).drew)).below (hc ▸ hb2)); rw [hc] at hs3) | skip)
      all_goals
        go_wp2_with fail
        go_ret
        refine ⟨by rw [HM.out]; rfl, ?_⟩
        first
          | exact Below.trans (((Below.refl _ _).alloc (Nat.le_refl _) _).drew) (hb2.mono (by simp))
          | exact (hd1.trans hb2).alloc (hd1.trans hb2).size _
          | exact hd1.trans hb2
          | (trace_state; sorry)
theorem rbytes_any (x : Int) (w : World) (x0 : 0 ≤ x) (x1 : x ≤ 18446744073709551615) : Calls Try.prog 10 #[.int .u64 x] w fun e w' => e = .returned (.string (str (enc x))) ∧ Below w.heap.size w w' :=
  rbytes_f 9 x w x0 x1 (by have := p7_top.1; simp only [Nat.reduceAdd]; omega)
theorem rall_any (v : Value) (l : List Int) (w : World) (hw : WordsAt w v l) (hl : l.length ≤ 1000) (hx : Wide l) : Calls Try.prog 13 #[v] w fun e w' => e = .returned (.string (str (encs l))) ∧ Below w.heap.size w w' := by
  obtain ⟨a, cap, rfl, hc⟩ := hw
  have HC := Lib.hid hc; clear hc
  have HX := Lib.hid hx; clear hx
  go_enter Try.func13, Try.ntmps13
  go_wp2_with fail
  go_loopw [3, 4] (fun s i wr => ∃ k : Nat, k ≤ l.length ∧ i = .int .i64 k ∧ s = .string (str (encs (l.take k))) ∧ Below w.heap.size w wr) (fun _ i _ => l.length - (intOf i).toNat)
  case atStart => exact ⟨0, Nat.zero_le _, rfl, rfl, Below.refl _ _⟩
  case round =>
    obtain ⟨k, hk, rfl, rfl, hbw⟩ := hrel
    by_cases hlt : k < l.length
    · obtain ⟨b, off, rfl, hb, hcell⟩ := HC.out k hlt
      have hcell := (hbw.cell (p := ⟨b, off + k, none⟩) hb).trans hcell
      have bx := HX.out k hlt
      have ht := encs_take l k hlt
      generalize l.getD k 0 = x at *
      obtain ⟨x0, x1⟩ := bx
      have hz2 : (str (enc x)).size ≤ 10 := by rw [str_size]; exact (enc_len _).2
      have hz1 : (str (encs (l.take k))).size ≤ 10000 := by
        rw [str_size]
        have := encs_len (l.take k)
        rw [List.length_take] at this
        omega
      have HT : Hid (str (encs (l.take k)) ++ str (enc x) = str (encs (l.take (k + 1)))) := Lib.hid (by rw [ht, str_append])
      clear ht
      go_wp2_with fail
      refine (rbytes_any x _ x0 x1).mono ?_
      rintro e w2 ⟨rfl, hb2⟩
      have hb := hbw.trans (hb2.mono hbw.size)
      clear hb2 hbw hcell
      go_wp2_with fail
      go_roundw
      case rel => exact ⟨k + 1, by omega, by go_num, by rw [← HT.out], hb⟩
      case measure => simp [intOf]; omega
    · obtain rfl : k = l.length := by omega
      go_wp2_with fail
      go_ret
      exact ⟨by simp, hbw⟩
end Go.Proofs.Ytpjgemjceikhfaa
