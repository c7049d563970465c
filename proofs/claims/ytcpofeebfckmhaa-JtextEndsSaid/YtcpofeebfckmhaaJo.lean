/- JtextEnds: its walk. -/
import Derived.Test.YtcpofeebfckmhaaJn
namespace Go.Proofs.Ytcpofeebfckmhaa
open Go.RowKit
set_option maxRecDepth 20000
set_option linter.unusedVariables false
set_option linter.unusedSimpArgs false
theorem val_byte {l : List Int} {n : Nat} (h : Val l n) : ∀ x ∈ l, 0 ≤ x ∧ x < 256 := by
  induction h with
  | nil => intro x hx; cases hx
  | cons c l n h1 h2 ih =>
    intro x hx
    rcases List.mem_append.1 hx with hx | hx
    · exact encC_byte c x hx
    · exact ih x hx
theorem piece_short {l t : List Int} {n : Nat} (h : stepP l = .piece t n) : t.length ≤ n := by
  cases l with
  | nil => cases h
  | cons b s =>
    rw [stepP] at h
    by_cases h1 : b = 34
    · rw [if_pos h1] at h; cases h
    rw [if_neg h1] at h
    by_cases h2 : b = 92
    · rw [if_pos h2] at h
      subst h2
      cases s with
      | nil => cases h
      | cons b1 s =>
        rw [esc_of] at h
        split at h
        · injection h with e1 e2
          subst e1 e2
          simp
        split at h
        · rcases badE_short (fourP (92 :: b1 :: s)).2 with e | e <;> rw [e] at h <;> cases h
        split at h
        · injection h with e1 e2
          subst e1 e2
          have := encC_len (fourP (92 :: b1 :: s)).1
          omega
        split at h
        · cases h
        split at h
        · rcases badE_short (fourP ((92 :: b1 :: s).drop 6)).2 with e | e <;> rw [e] at h <;> cases h
        split at h
        · cases h
        · injection h with e1 e2
          subst e1 e2
          have := encC_len (65536 + 1024 * ((fourP (92 :: b1 :: s)).1 - 55296) + (fourP ((92 :: b1 :: s).drop 6)).1 - 56320)
          omega
    rw [if_neg h2] at h
    split at h
    · cases h
    · injection h with e1 e2
      subst e1 e2
      exact Nat.le_refl _
theorem takeG_len : ∀ (f : Nat) (l : List Int) (p : Nat) (out : List Int), (takeG f l p out).1.length ≤ out.length + l.length
  | 0, l, p, out => by simp [takeG]
  | f + 1, l, p, out => by
    rw [takeG_step]
    cases hs : stepP l with
    | short => simp
    | form => simp
    | fin => simp
    | piece t n =>
      have h1 := piece_short hs
      have h2 := (step_piece l t n hs).len
      have h3 := takeG_len f (l.drop n) (p + n) (out ++ t)
      rw [List.length_append, List.length_drop] at h3
      simp only
      omega
theorem takeP_len (l : List Int) (p : Int) : (takeP l p).1.length ≤ l.length := by
  unfold takeP
  split
  · simp
  split
  · simp
  split
  · simp
  · have := takeG_len l.length (l.drop (p.toNat + 1)) (p.toNat + 1) []
    rw [List.length_drop, List.length_nil] at this
    omega
theorem ends_long (s b : ByteArray) (c : Int) (w : World) (h : 200 < s.size ∨ 200 < b.size) : Calls Try.prog 5 #[.string s, .string b, .int .u8 c] w fun e w' => e = .returned (.bool true) ∧ Below w.heap.size w w' := by
  have HA := Lib.hid jawake_any
  by_cases c1 : 200 < s.size
  · have d1 : decide (200 < (s.size : Int)) = true := by simp; omega
    clear h
    go_enter Try.func5, Try.ntmps5
    go_wp2_with fail
    refine (HA.out _).mono ?_
    rintro e w1 ⟨rfl, hb⟩
    go_wp2_with fail
    go_ret
    exact ⟨rfl, hb⟩
  have e1 : decide (200 < (s.size : Int)) = false := by simp; omega
  have e2 : decide (200 < (b.size : Int)) = true := by simp; omega
  clear h
  go_enter Try.func5, Try.ntmps5
  go_wp2_with fail
  refine (HA.out _).mono ?_
  rintro e w1 ⟨rfl, hb⟩
  go_wp2_with fail
  go_ret
  exact ⟨rfl, hb⟩
theorem ends_bad (s b : ByteArray) (c : Int) (w : World) (l1 : s.size ≤ 200) (l2 : b.size ≤ 200) (h : (takeP (bI s) 0).2.2 ≠ 0) : Calls Try.prog 5 #[.string s, .string b, .int .u8 c] w fun e w' => e = .returned (.bool true) ∧ Below w.heap.size w w' := by
  have HA := Lib.hid jawake_any
  have e1 : decide (200 < (s.size : Int)) = false := by simp; omega
  have e2 : decide (200 < (b.size : Int)) = false := by simp; omega
  obtain ⟨b1, b2, b3⟩ := take_bad (bI s) h
  have h1 := fun W => jtake_any s 0 W (Nat.zero_le _) (by omega)
  rw [show (((0 : Nat) : Int)) = 0 from rfl, b1, as0] at h1
  rw [bI_len] at b2 b3
  generalize (takeP (bI s) 0).2.1 = n at *
  generalize (takeP (bI s) 0).2.2 = z at *
  have hz : (z != 0) = true := by simpa using h
  have h1 := Lib.hid h1
  have HB0 : Hid (Below w.heap.size w w) := Lib.hid (Below.refl _ _)
  by_cases h3 : z = 3
  · have hn := b3 h3
    have d3 : (z != 3) = false := by simpa using h3
    clear b1 b3 h3 h
    subst hn
    go_enter Try.func5, Try.ntmps5
    go_wp2_with fail
    refine (h1.out _).mono ?_
    rintro e w1 ⟨rfl, hb⟩
    have HB1 := Lib.hid (HB0.out.trans (hb.mono HB0.out.size))
    clear hb
    go_wp2_with fail
    refine (HA.out _).mono ?_
    rintro e w2 ⟨rfl, hb⟩
    have HB2 := Lib.hid (HB1.out.trans (hb.mono HB1.out.size))
    clear hb
    go_wp2_with fail
    go_ret
    exact ⟨rfl, HB2.out⟩
  · have d3 : (z != 3) = true := by simpa using h3
    have hn2 : (n : Int) ≤ (s.size : Int) := by omega
    clear b1 b3 h3 h
    go_enter Try.func5, Try.ntmps5
    go_wp2_with fail
    refine (h1.out _).mono ?_
    rintro e w1 ⟨rfl, hb⟩
    have HB1 := Lib.hid (HB0.out.trans (hb.mono HB0.out.size))
    clear hb
    go_wp2_with fail
    refine (HA.out _).mono ?_
    rintro e w2 ⟨rfl, hb⟩
    have HB2 := Lib.hid (HB1.out.trans (hb.mono HB1.out.size))
    clear hb
    go_wp2_with fail
    go_ret
    exact ⟨rfl, HB2.out⟩
set_option maxHeartbeats 2000000 in
theorem ends_good (s b : ByteArray) (cn : Nat) (w : World) (l1 : s.size ≤ 200) (l2 : b.size ≤ 200) (hcn : cn ≤ 255) (h : (takeP (bI s) 0).2.2 = 0) : Calls Try.prog 5 #[.string s, .string b, .int .u8 cn] w fun e w' => e = .returned (.bool true) ∧ Below w.heap.size w w' := by
  have HA := Lib.hid jawake_any
  have e1 : decide (200 < (s.size : Int)) = false := by simp; omega
  have e2 : decide (200 < (b.size : Int)) = false := by simp; omega
  obtain ⟨⟨k, hv⟩, g1, g2, g3, g4⟩ := take_good (bI s) h
  have h1 := fun W => jtake_any s 0 W (Nat.zero_le _) (by omega)
  rw [show (((0 : Nat) : Int)) = 0 from rfl] at h1
  rw [bI_len] at g2
  have g3 := g3 (bI b)
  have hts := takeP_len (bI s) 0
  rw [bI_len] at hts
  generalize hT : takeP (bI s) 0 = T at *
  obtain ⟨t, n, z⟩ := T
  dsimp only at h hv g1 g2 g3 g4 h1 hts
  subst h
  have hbt := val_byte hv
  obtain ⟨u, hu⟩ : ∃ u, str t = u := ⟨_, rfl⟩
  have hut : bI u = t := by rw [← hu]; exact bI_str t hbt
  rw [hu] at h1
  have h3 := fun W => jtake_any (s.extract 0 n ++ b) 0 W (Nat.zero_le _) (by rw [ByteArray.size_append, ByteArray.size_extract]; omega)
  rw [show (((0 : Nat) : Int)) = 0 from rfl, bI_append, bI_extract _ _ _ (Nat.zero_le _), List.drop_zero, Nat.sub_zero, g3] at h3
  dsimp only at h3
  rw [hu] at h3
  obtain ⟨j, hj⟩ : ∃ j, cn % n = j := ⟨_, rfl⟩
  have hjn : j < n := by rw [← hj]; exact Nat.mod_lt _ (by omega)
  have h4 := fun W => jtake_any (s.extract 0 j) 0 W (Nat.zero_le _) (by rw [ByteArray.size_extract]; omega)
  rw [show (((0 : Nat) : Int)) = 0 from rfl, bI_extract _ _ _ (Nat.zero_le _), List.drop_zero, Nat.sub_zero] at h4
  have g4 := g4 j hjn
  rw [g4.1, as0] at h4
  have g5 := g4.2
  generalize (takeP (List.take j (bI s)) 0).2.1 = nn at *
  generalize (takeP (List.take j (bI s)) 0).2.2 = zz at *
  have hm2 : ((cn : Int) % (n : Int)) = (j : Int) := by rw [← hj]; exact (Int.natCast_emod cn n).symm
  have hm1 : ((cn : Int).tmod (n : Int)) = (j : Int) := by rw [Int.tmod_eq_emod_of_nonneg (by omega)]; exact hm2
  have hse := str_same16 u
  have hus : u.size ≤ 100000 := by
    have h5 : u.size = t.length := by rw [← hu]; exact str_size t
    omega
  have h2 := fun W => jvalid_any u W hus
  rw [hut, count_is hv, decide_eq_true (by omega)] at h2
  have h1 := Lib.hid h1
  have h2 := Lib.hid h2
  have h3 := Lib.hid h3
  have h4 := Lib.hid h4
  have HB0 : Hid (Below w.heap.size w w) := Lib.hid (Below.refl _ _)
  have hq1 : (2 : Int) ≤ (n : Int) := by omega
  have hq2 : (n : Int) ≤ (s.size : Int) := by omega
  have hq3 : (j : Int) ≤ (s.size : Int) := by omega
  have d1 : decide ((n : Int) < 2) = false := by simp; omega
  have d2 : decide ((s.size : Int) < (n : Int)) = false := by simp; omega
  have hj0 : ¬ ((n : Int) = 0) := by omega
  clear hv hbt hts hu hut g3 g4 hT hj
  by_cases h5 : zz = 3
  · have h6 : nn = j := by
      rcases g5 with g5 | g5
      · exact g5.2
      · omega
    subst h5 h6
    clear g5
    go_enter Try.func5, Try.ntmps5
    go_wp2_with fail
    refine (h1.out _).mono ?_
    rintro e w1 ⟨rfl, hb⟩
    have HB1 := Lib.hid (HB0.out.trans (hb.mono HB0.out.size))
    clear hb
    go_wp2_with fail
    refine (h2.out _).mono ?_
    rintro e w2 ⟨rfl, hb⟩
    have HB2 := Lib.hid (HB1.out.trans (hb.mono HB1.out.size))
    clear hb
    go_wp2_with fail
    refine (h3.out _).mono ?_
    rintro e w3 ⟨rfl, hb⟩
    have HB3 := Lib.hid (HB2.out.trans (hb.mono HB2.out.size))
    clear hb
    go_wp2_with fail
    refine (h4.out _).mono ?_
    rintro e w4 ⟨rfl, hb⟩
    have HB4 := Lib.hid (HB3.out.trans (hb.mono HB3.out.size))
    clear hb
    go_wp2_with fail
    refine (HA.out _).mono ?_
    rintro e w5 ⟨rfl, hb⟩
    have HB5 := Lib.hid (HB4.out.trans (hb.mono HB4.out.size))
    clear hb
    go_wp2_with fail
    go_ret
    exact ⟨rfl, HB5.out⟩
  · have h6 : zz = 4 := by
      rcases g5 with g5 | g5
      · exact absurd g5.1 h5
      · exact g5
    subst h6
    clear g5 h5
    go_enter Try.func5, Try.ntmps5
    go_wp2_with fail
    refine (h1.out _).mono ?_
    rintro e w1 ⟨rfl, hb⟩
    have HB1 := Lib.hid (HB0.out.trans (hb.mono HB0.out.size))
    clear hb
    go_wp2_with fail
    refine (h2.out _).mono ?_
    rintro e w2 ⟨rfl, hb⟩
    have HB2 := Lib.hid (HB1.out.trans (hb.mono HB1.out.size))
    clear hb
    go_wp2_with fail
    refine (h3.out _).mono ?_
    rintro e w3 ⟨rfl, hb⟩
    have HB3 := Lib.hid (HB2.out.trans (hb.mono HB2.out.size))
    clear hb
    go_wp2_with fail
    refine (h4.out _).mono ?_
    rintro e w4 ⟨rfl, hb⟩
    have HB4 := Lib.hid (HB3.out.trans (hb.mono HB3.out.size))
    clear hb
    go_wp2_with fail
    refine (HA.out _).mono ?_
    rintro e w5 ⟨rfl, hb⟩
    have HB5 := Lib.hid (HB4.out.trans (hb.mono HB4.out.size))
    clear hb
    go_wp2_with fail
    go_ret
    exact ⟨rfl, HB5.out⟩
theorem jtextends_law (s b : ByteArray) (c : Int) (w : World) (h1 : s.size ≤ maxLen) (h2 : b.size ≤ maxLen) (h3 : 0 ≤ c) (h4 : c ≤ 255) : Calls Try.prog 5 #[.string s, .string b, .int .u8 c] w fun e w' => e = .returned (.bool true) ∧ Below w.heap.size w w' := by
  by_cases l1 : 200 < s.size
  · exact ends_long s b c w (.inl l1)
  by_cases l2 : 200 < b.size
  · exact ends_long s b c w (.inr l2)
  by_cases h : (takeP (bI s) 0).2.2 = 0
  · obtain ⟨cn, rfl⟩ : ∃ cn : Nat, c = cn := ⟨c.toNat, by omega⟩
    exact ends_good s b cn w (by omega) (by omega) (by omega) h
  · exact ends_bad s b c w (by omega) (by omega) h
end Go.Proofs.Ytcpofeebfckmhaa
