/- Contracts of the document's own wrong, own and Back: what is wrong with the number with which a text begins, and a scan as the other side has it. -/
import Derived.Test.YtpjgemjceikhfaaH
namespace Go.Proofs.Ytpjgemjceikhfaa
open Go.RowKit
set_option linter.unusedVariables false
set_option maxRecDepth 20000 in
theorem wrong_any (t : ByteArray) (w : World) (hm : t.size ≤ maxLen) : Calls Try.prog 27 #[.string t] w fun e w' => e = .returned (.tuple #[.int .i64 (errV t.data.toList), .int .i64 (fstN t.data.toList)]) ∧ w = w' := by
  unfold maxLen at hm
  obtain ⟨l, hl⟩ : ∃ l, t.data.toList = l := ⟨_, rfl⟩
  have hlen : l.length = t.size := by rw [← hl]; simp
  have hat : ∀ k (h : k < t.size), (l.getD k 0).toNat = t[k].toNat := fun k h => by rw [← hl, list_at t k h]
  rw [hl]
  have HAT := Lib.hid hat; have HLEN := Lib.hid hlen; clear hat hlen hl
  obtain ⟨N, hN⟩ : ∃ N, fstN l = N := ⟨_, rfl⟩
  obtain ⟨E, hE⟩ : ∃ E, errV l = E := ⟨_, rfl⟩
  rw [hN, hE]
  have HN := Lib.hid hN; have HE := Lib.hid hE; clear hN hE
  go_enter Try.func27, Try.ntmps27
  go_wp2_with fail
  go_loop [4] (fun i => ∃ (k : Nat), k ≤ lead 10 l ∧ i = .int .i64 k) (fun i => 10 - (intOf i).toNat)
  case atStart => exact ⟨0, Nat.zero_le _, rfl⟩
  case round =>
    obtain ⟨k, hk, rfl⟩ := hrel
    have hll := lead_le 10 l
    by_cases h10 : k = 10
    · subst h10
      have HF : Hid (N = 0 ∧ E = 11) := by
        have hl : lead 10 l = 10 := by omega
        have he : errV l = 11 := by unfold errV; rw [if_pos hl]
        have := fst_no l 11 he (by decide)
        exact Lib.hid ⟨by rw [← HN.out, this.2], by rw [← HE.out, he]⟩
      have hlen := HLEN.out
      by_cases hz : t.size = 10
      · have hd : decide ((10 : Int) < (t.size : Int)) = false := by simp; omega
        clear hll hk
        go_wp2_with fail
        go_ret2
        exact ⟨ret2 HF.out.2.symm HF.out.1.symm, rfl⟩
      · have hd : (10 : Int) < (t.size : Int) := by omega
        clear hll hk
        go_wp2_with fail
        go_ret2
        exact ⟨ret2 HF.out.2.symm HF.out.1.symm, rfl⟩
    · have hk9 : ((k : Int) == 10) = false := by simp; omega
      by_cases hn : k = t.size
      · subst hn
        have HF : Hid (N = 0 ∧ E = 3) := by
          have hl : lead 10 l = t.size := by have := HLEN.out; omega
          have he : errV l = 3 := by have := HLEN.out; unfold errV; rw [if_neg (by omega), if_pos (by omega)]
          have := fst_no l 3 he (by decide)
          exact Lib.hid ⟨by rw [← HN.out, this.2], by rw [← HE.out, he]⟩
        clear hll hk
        go_wp2_with fail
        go_ret2
        exact ⟨ret2 HF.out.2.symm HF.out.1.symm, rfl⟩
      · have hlt : k < t.size := by have := HLEN.out; omega
        have h10' : k < 10 := by omega
        have hk0 : (0 : Int) ≤ (k : Int) := Int.natCast_nonneg _
        have hk1 : (k : Int) < (t.size : Int) := by omega
        have hk2 : (k : Int) < 10 := by omega
        have hkt : ((k : Int) == (t.size : Int)) = false := by simp; omega
        have hca := HAT.out k hlt
        have hcb : t[k].toNat < 256 := byte_lt _
        by_cases hc : 128 ≤ t[k].toNat
        · have HK : Hid (k + 1 ≤ lead 10 l) := Lib.hid (lead_next 10 l k hk h10' (by rw [HLEN.out]; exact hlt) (by rw [hca]; exact hc))
          clear hca hll hk
          go_wp2_with fail
          exact ⟨⟨k + 1, HK.out, by go_num⟩, by simp [intOf]; omega⟩
        · have HS := Lib.hid (stop_at l k _ hk (by rw [HLEN.out]; exact hlt) h10' hca (by omega))
          clear hca hll hk
          by_cases hA : k = 9 ∧ 1 < t[k].toNat
          · have HF : Hid (N = 0 ∧ E = 11) := by
              have he := HS.out.1 hA
              have := fst_no l 11 he (by decide)
              exact Lib.hid ⟨by rw [← HN.out, this.2], by rw [← HE.out, he]⟩
            clear HS
            obtain ⟨rfl, hA2⟩ := hA
            go_wp2_with fail
            go_ret2
            exact ⟨ret2 HF.out.2.symm HF.out.1.symm, rfl⟩
          · by_cases hB : 0 < k ∧ t[k].toNat = 0
            · have HF : Hid (N = 0 ∧ E = 4) := by
                have he := HS.out.2.1 hA hB
                have := fst_no l 4 he (by decide)
                exact Lib.hid ⟨by rw [← HN.out, this.2], by rw [← HE.out, he]⟩
              clear HS
              obtain ⟨hB1, hB2⟩ := hB
              have hc0 : ((t[k].toNat : Int) == 0) = true := by simp; omega
              have hc1 : (t[k].toNat : Int) ≤ 1 := by omega
              by_cases h9 : k = 9
              · subst h9
                go_wp2_with fail
                go_ret2
                exact ⟨ret2 HF.out.2.symm HF.out.1.symm, rfl⟩
              · have h9' : ((k : Int) == 9) = false := by simp; omega
                go_wp2_with fail
                go_ret2
                exact ⟨ret2 HF.out.2.symm HF.out.1.symm, rfl⟩
            · have hs := HS.out.2.2 hA hB
              have hf := fst_ok l hs.1
              have HF : Hid (N = (k : Int) + 1 ∧ E = 0) :=
                Lib.hid ⟨by rw [← HN.out, hf.2, hs.2.1], by rw [← HE.out, hs.1]⟩
              clear HS hs hf
              by_cases h9 : k = 9
              · subst h9
                have hc0 : ((t[9].toNat : Int) == 0) = false := by simp; omega
                have hc1 : (t[9].toNat : Int) ≤ 1 := by omega
                go_wp2_with fail
                go_ret2
                exact ⟨ret2 HF.out.2.symm HF.out.1.symm, rfl⟩
              · have h9' : ((k : Int) == 9) = false := by simp; omega
                by_cases hk00 : k = 0
                · subst hk00
                  go_wp2_with fail
                  go_ret2
                  exact ⟨ret2 HF.out.2.symm HF.out.1.symm, rfl⟩
                · have hc0 : ((t[k].toNat : Int) == 0) = false := by simp; omega
                  have hkp : 0 < k := by omega
                  go_wp2_with fail
                  go_ret2
                  exact ⟨ret2 HF.out.2.symm HF.out.1.symm, rfl⟩
end Go.Proofs.Ytpjgemjceikhfaa
