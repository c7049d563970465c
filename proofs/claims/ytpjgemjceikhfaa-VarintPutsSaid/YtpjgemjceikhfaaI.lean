/- The contract of varint's first: the number with which a text begins and how many bytes it has, or what is wrong with it. -/
import Derived.Test.YtpjgemjceikhfaaH
namespace Go.Proofs.Ytpjgemjceikhfaa
open Go.RowKit
set_option linter.unusedVariables false
set_option maxRecDepth 20000 in
theorem vfirst_any (t : ByteArray) (w : World) (hm : t.size ≤ maxLen) : Calls Try.prog 25 #[.string t] w fun e w' => e = .returned (.tuple #[.int .u64 (fstX t.data.toList), .int .i64 (fstN t.data.toList), .int .i64 (errV t.data.toList)]) ∧ w = w' := by
  unfold maxLen at hm
  obtain ⟨l, hl⟩ : ∃ l, t.data.toList = l := ⟨_, rfl⟩
  have hlen : l.length = t.size := by rw [← hl]; simp
  have hat : ∀ k (h : k < t.size), (l.getD k 0).toNat = t[k].toNat := fun k h => by rw [← hl, list_at t k h]
  rw [hl]
  have HAT := Lib.hid hat; have HLEN := Lib.hid hlen; clear hat hlen hl
  obtain ⟨X, hX⟩ : ∃ X, fstX l = X := ⟨_, rfl⟩
  obtain ⟨N, hN⟩ : ∃ N, fstN l = N := ⟨_, rfl⟩
  obtain ⟨E, hE⟩ : ∃ E, errV l = E := ⟨_, rfl⟩
  rw [hX, hN, hE]
  have HX := Lib.hid hX; have HN := Lib.hid hN; have HE := Lib.hid hE; clear hX hN hE
  go_enter Try.func25, Try.ntmps25
  go_wp2_with fail
  go_step3
  go_wp2_with fail
  go_step3
  go_wp2_with fail
  go_loop [5, 6] (fun x i => ∃ (k : Nat) (y : Int), k ≤ lead 10 l ∧ i = .int .i64 k ∧ x = .int .u64 y ∧ Hid (k ≤ 9 → y = numV (l.take k))) (fun _ i => 10 - (intOf i).toNat)
  case atStart => exact ⟨0, 0, Nat.zero_le _, rfl, rfl, Lib.hid (fun _ => by simp [numV])⟩
  case round =>
    obtain ⟨k, y, hk, rfl, rfl, HY⟩ := hrel
    have hll := lead_le 10 l
    by_cases h10 : k = 10
    · subst h10
      have HF : Hid (X = 0 ∧ N = 0 ∧ E = 11) := by
        have hl : lead 10 l = 10 := by omega
        have he : errV l = 11 := by unfold errV; rw [if_pos hl]
        have := fst_no l 11 he (by decide)
        exact Lib.hid ⟨by rw [← HX.out, this.1], by rw [← HN.out, this.2], by rw [← HE.out, he]⟩
      clear hll hk
      go_wp2_with fail
      try rw [Exit.noGoto_ret]
      go_ret3
      exact ⟨ret3 HF.out.1.symm HF.out.2.1.symm HF.out.2.2.symm, rfl⟩
    · by_cases hn : k = t.size
      · subst hn
        have HF : Hid (X = 0 ∧ N = 0 ∧ E = 3) := by
          have hl : lead 10 l = t.size := by have := HLEN.out; omega
          have he : errV l = 3 := by have := HLEN.out; unfold errV; rw [if_neg (by omega), if_pos (by omega)]
          have := fst_no l 3 he (by decide)
          exact Lib.hid ⟨by rw [← HX.out, this.1], by rw [← HN.out, this.2], by rw [← HE.out, he]⟩
        have hk9 : ((t.size : Int) == 10) = false := by simp; omega
        clear hll hk
        go_wp2_with fail
        try rw [Exit.noGoto_ret]
        go_ret3
        exact ⟨ret3 HF.out.1.symm HF.out.2.1.symm HF.out.2.2.symm, rfl⟩
      · have hlt : k < t.size := by have := HLEN.out; omega
        have h10' : k < 10 := by omega
        have hk0 : (0 : Int) ≤ (k : Int) := Int.natCast_nonneg _
        have hk1 : (k : Int) < (t.size : Int) := by omega
        have hk9 : ((k : Int) == 10) = false := by simp; omega
        have hkt : ((k : Int) == (t.size : Int)) = false := by simp; omega
        have hca := HAT.out k hlt
        have hcb : t[k].toNat < 256 := byte_lt _
        by_cases hc : 128 ≤ t[k].toNat
        · have HK : Hid (k + 1 ≤ lead 10 l) := Lib.hid (lead_next 10 l k hk h10' (by rw [HLEN.out]; exact hlt) (by rw [hca]; exact hc))
          have HV : Hid (k + 1 ≤ 9 → bits BinOp.or IntKind.u64 y (IntKind.u64.wrap (((t[k].toNat : Int) - 128) * 2 ^ (7 * k))) = numV (l.take (k + 1))) :=
            Lib.hid (fun h9 => round_val l k y _ hk (by rw [HLEN.out]; exact hlt) hca hc HY.out h9)
          have hw8 : IntKind.u8.wrap ((t[k].toNat : Int) - 128) = (t[k].toNat : Int) - 128 := IntWalk.u8_in _ (by omega)
          clear HY hca hll hk
          go_wp2_with fail
          exact ⟨⟨k + 1, _, HK.out, by go_num, rfl, HV⟩, by simp [intOf]; omega⟩
        · have HS := Lib.hid (stop_at l k _ hk (by rw [HLEN.out]; exact hlt) h10' hca (by omega))
          clear hca hll hk
          by_cases hA : k = 9 ∧ 1 < t[k].toNat
          · have HF : Hid (X = 0 ∧ N = 0 ∧ E = 11) := by
              have he := HS.out.1 hA
              have := fst_no l 11 he (by decide)
              exact Lib.hid ⟨by rw [← HX.out, this.1], by rw [← HN.out, this.2], by rw [← HE.out, he]⟩
            clear HS
            obtain ⟨rfl, hA2⟩ := hA
            go_wp2_with fail
            try rw [Exit.noGoto_ret]
            go_ret3
            exact ⟨ret3 HF.out.1.symm HF.out.2.1.symm HF.out.2.2.symm, rfl⟩
          · by_cases hB : 0 < k ∧ t[k].toNat = 0
            · have HF : Hid (X = 0 ∧ N = 0 ∧ E = 4) := by
                have he := HS.out.2.1 hA hB
                have := fst_no l 4 he (by decide)
                exact Lib.hid ⟨by rw [← HX.out, this.1], by rw [← HN.out, this.2], by rw [← HE.out, he]⟩
              clear HS
              obtain ⟨hB1, hB2⟩ := hB
              have hc0 : ((t[k].toNat : Int) == 0) = true := by simp; omega
              have hc1 : decide (1 < (t[k].toNat : Int)) = false := by simp; omega
              by_cases h9 : k = 9
              · subst h9
                go_wp2_with fail
                try rw [Exit.noGoto_ret]
                go_ret3
                exact ⟨ret3 HF.out.1.symm HF.out.2.1.symm HF.out.2.2.symm, rfl⟩
              · have h9' : ((k : Int) == 9) = false := by simp; omega
                go_wp2_with fail
                try rw [Exit.noGoto_ret]
                go_ret3
                exact ⟨ret3 HF.out.1.symm HF.out.2.1.symm HF.out.2.2.symm, rfl⟩
            · have hs := HS.out.2.2 hA hB
              have hy := HY.out (by omega)
              have hf := fst_ok l hs.1
              have HF : Hid (X = y + t[k].toNat * p7 k ∧ N = (k : Int) + 1 ∧ E = 0) :=
                Lib.hid ⟨by rw [← HX.out, hf.1, hs.2.2.1, ← hy], by rw [← HN.out, hf.2, hs.2.1], by rw [← HE.out, hs.1]⟩
              obtain ⟨_, _, _, q1, q2, q3, q4⟩ := hs
              rw [← hy] at q1 q2 q4
              have HQ := Lib.hid (And.intro q1 (And.intro q2 (And.intro q3 q4)))
              clear HS q1 q2 q3 q4 hf hy HY
              by_cases h9 : k = 9
              · subst h9
                have hc0 : ((t[9].toNat : Int) == 0) = false := by simp; omega
                have hc1 : (t[9].toNat : Int) ≤ 1 := by omega
                go_wp2_with fail
                try rw [Exit.noGoto_ret]
                go_ret3
                refine ⟨ret3 ?_ HF.out.2.1.symm HF.out.2.2.symm, rfl⟩
                rw [HF.out.1]
                have := or7 9 y t[9].toNat HQ.out.2.1 HQ.out.1 (by omega) HQ.out.2.2.1 HQ.out.2.2.2
                rw [← this, p7_top.2]
              · have h9' : ((k : Int) == 9) = false := by simp; omega
                have hd : (decide (0 < (k : Int)) && ((t[k].toNat : Int) == 0)) = false := by simp; omega
                by_cases hk00 : k = 0
                · subst hk00
                  go_wp2_with fail
                  try rw [Exit.noGoto_ret]
                  go_ret3
                  refine ⟨ret3 ?_ HF.out.2.1.symm HF.out.2.2.symm, rfl⟩
                  rw [HF.out.1]
                  have := or7 0 y t[0].toNat HQ.out.2.1 HQ.out.1 (by omega) HQ.out.2.2.1 HQ.out.2.2.2
                  rw [← this]
                  simp [p7]
                · have hc0 : ((t[k].toNat : Int) == 0) = false := by simp; omega
                  have hkp : 0 < k := by omega
                  go_wp2_with fail
                  try rw [Exit.noGoto_ret]
                  go_ret3
                  refine ⟨ret3 ?_ HF.out.2.1.symm HF.out.2.2.symm, rfl⟩
                  rw [HF.out.1]
                  exact or7w k y t[k].toNat HQ.out.2.1 HQ.out.1 (by omega) HQ.out.2.2.1 HQ.out.2.2.2
end Go.Proofs.Ytpjgemjceikhfaa
