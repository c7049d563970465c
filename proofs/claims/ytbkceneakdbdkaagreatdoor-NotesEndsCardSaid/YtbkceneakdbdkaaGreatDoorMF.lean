/- Several texts, one behind the other: Jv, Jw, Jx, Jy, Jz, Jk. -/
import Derived.Test.YtbkceneakdbdkaaGreatDoorME
import Derived.LoopTactic
/- The program's mark: the rune of a mark, or of a pair of marks. -/
namespace Go.Proofs.YtbkceneakdbdkaaGreatDoor
open Go.RowKit
set_option maxRecDepth 20000
set_option linter.unusedVariables false
set_option linter.unusedSimpArgs false
def MarkEnd (l : List Int) (w : World) (e : Ending) (w' : World) : Prop := (∃ (c : Int) (n : Nat) (er : Int), e = .returned (.tuple #[.int .i32 c, .int .i64 n, .int .i64 er]) ∧ MarkOk l c n er) ∧ Below w.heap.size w w'
theorem esc_r {a b : Int} {t : List Int} (h : twoR b ≠ 0) : escP (a :: b :: t) = .piece (encC (twoR b)) 2 := by
  have h2 := two_r b
  rw [if_neg h] at h2
  rw [esc_of, h2, (two_val h2).1]
theorem esc_n {a b : Int} {t : List Int} (h : twoR b = 0) : escP (a :: b :: t) = if (fourP (a :: b :: t)).2 ≠ 0 then badE (fourP (a :: b :: t)).2 else if (fourP (a :: b :: t)).1 < 55296 ∨ 57343 < (fourP (a :: b :: t)).1 then .piece (encC (fourP (a :: b :: t)).1) 6 else if 56319 < (fourP (a :: b :: t)).1 then .form else
      if (fourP ((a :: b :: t).drop 6)).2 ≠ 0 then badE (fourP ((a :: b :: t).drop 6)).2 else if (fourP ((a :: b :: t).drop 6)).1 < 56320 ∨ 57343 < (fourP ((a :: b :: t).drop 6)).1 then .form
      else .piece (encC (65536 + 1024 * ((fourP (a :: b :: t)).1 - 55296) + (fourP ((a :: b :: t).drop 6)).1 - 56320)) 12 := by
  have h2 := two_r b
  rw [if_pos h] at h2
  rw [esc_of, h2]
theorem mark_err {b : Int} {t : List Int} {c : Int} {n : Nat} {e : Int} (h : escP (92 :: b :: t) = badE e) (he : e = 3 ∨ e = 4) : MarkOk (92 :: b :: t) c n e := by
  rcases he with rfl | rfl
  · exact Or.inl ⟨rfl, h⟩
  · exact Or.inr (Or.inl ⟨rfl, h⟩)
theorem bI_two (s : ByteArray) (h : 1 < s.size) : ∃ a t, bI s = a :: ((s[1]'h).toNat : Int) :: t := by
  have h1 := bI_get s 1 h
  cases hb : bI s with
  | nil => rw [hb] at h1; cases h1
  | cons a u =>
    cases u with
    | nil => rw [hb] at h1; cases h1
    | cons b t =>
      rw [hb] at h1
      have : b = ((s[1]'h).toNat : Int) := by simpa using h1
      exact ⟨a, t, by rw [this]⟩
set_option maxHeartbeats 2000000 in
theorem mark_one (s : ByteArray) (w : World) (hs : s.size = 1) (hh : (bI s).headD 0 = 92) : Calls Tryz.prog 94 #[.string s] w (MarkEnd (bI s) w) := by
  have h1 : (s.size : Int) = 1 := by omega
  have hl : bI s = [92] := by
    have := bI_len s
    cases hb : bI s with
    | nil => rw [hb, hs] at this; cases this
    | cons a u =>
      rw [hb] at hh this
      rw [hs] at this
      have hu : u = [] := List.eq_nil_of_length_eq_zero (by simpa using this)
      rw [hu]; rw [List.headD_cons] at hh; rw [hh]
  rw [hl]
  have HM : Hid (MarkOk [92] 0 0 3) := Lib.hid (Or.inl ⟨rfl, rfl⟩)
  clear hs hh hl
  unfold MarkEnd
  go_enter Tryz.func94, Tryz.ntmps94
  go_wp2_with fail
  refine bodyPost_ret (v := .tuple #[.int .i32 0, .int .i64 0, .int .i64 3]) (by simp [results, Tryz.results94, go_sem]) rfl ⟨⟨0, 0, 3, rfl, HM.out⟩, by go_grown⟩
set_option maxHeartbeats 4000000 in
theorem mark_more (s : ByteArray) (w : World) (hs : 1 < s.size) (hs2 : s.size ≤ 100000) (hh : (bI s).headD 0 = 92) : Calls Tryz.prog 94 #[.string s] w (MarkEnd (bI s) w) := by
  have h1 : ¬ (s.size : Int) = 1 := by omega
  have hb2 : (1 : Int) < (s.size : Int) := by omega
  obtain ⟨a, t, hl⟩ := bI_two s hs
  rw [hl, List.headD_cons] at hh
  subst hh
  have hbl := (s[1]'hs).toNat_lt
  have HU := Lib.hid (fun W => unit_any s W hs2)
  have HU2 := Lib.hid (fun W (h6 : 6 ≤ s.size) => unit_any (s.extract 6 s.size) W (by rw [ByteArray.size_extract]; omega))
  have hd6 : 6 ≤ s.size → bI (s.extract 6 s.size) = ((92 : Int) :: ((s[1]'hs).toNat : Int) :: t).drop 6 := fun h6 => by rw [bI_from s 6 h6, hl]
  have hlen : ((92 : Int) :: ((s[1]'hs).toNat : Int) :: t).length = s.size := by rw [← hl, bI_len]
  unfold unitV at HU HU2
  rw [hl] at HU ⊢
  unfold MarkEnd
  obtain ⟨b, hbv⟩ : ∃ b : Int, ((s[1]'hs).toNat : Int) = b := ⟨_, rfl⟩
  have hw : IntKind.i32.wrap b = b := by rw [IntKind.wrap_i32]; omega
  have HT := Lib.hid (fun W => two_any b W)
  rw [hbv] at HU hd6 hlen ⊢
  clear hbl hl
  by_cases hr : twoR b = 0
  · rw [hr] at HT
    have HE := Lib.hid (esc_n (a := 92) (t := t) hr)
    have hfe := four_err 6 0 0 (92 :: b :: t)
    have hfl := four_lt (92 :: b :: t)
    have hfn := four_len (l := 92 :: b :: t)
    by_cases he : (fourP (92 :: b :: t)).2 = 0
    · have hlt := hfl he
      have h6 := hfn he
      have h6s : 6 ≤ s.size := by rw [← hlen]; exact h6
      have he2 : (fourP (92 :: b :: t)) = ((fourP (92 :: b :: t)).1, 0) := by rw [← he]
      generalize hr1 : (fourP (92 :: b :: t)).1 = r at *
      rw [he2] at HU HE
      simp only [ne_eq, not_true_eq_false, if_false] at HE
      by_cases hr2 : r < 55296 ∨ 57343 < r
      · have HM : Hid (MarkOk (92 :: b :: t) r 6 0) := Lib.hid (mark_of (by rw [HE.out, if_pos hr2]))
        clear hr HE hfe hfl hfn HU2 hd6 he2 he hr1 h6 h6s hlt
        by_cases hr3 : r < 55296
        · clear hr2
          go_enter Tryz.func94, Tryz.ntmps94
          go_wp2_with fail
          refine (HT.out _).mono ?_
          rintro e w2 ⟨rfl, hb2⟩
          go_wp2_with fail
          refine (HU.out _).mono ?_
          rintro e w3 ⟨rfl, hb3⟩
          have HB3 := Lib.hid (hb2.trans (hb3.mono hb2.size))
          clear hb2 hb3
          go_wp2_with fail
          refine bodyPost_ret (v := .tuple #[.int .i32 (r), .int .i64 (6), .int .i64 (0)]) (by simp [results, Tryz.results94, go_sem]) rfl ⟨⟨r, 6, 0, rfl, HM.out⟩, HB3.out⟩
        · have hr4 : (57344 : Int) ≤ r := by omega
          clear hr2
          go_enter Tryz.func94, Tryz.ntmps94
          go_wp2_with fail
          refine (HT.out _).mono ?_
          rintro e w2 ⟨rfl, hb2⟩
          go_wp2_with fail
          refine (HU.out _).mono ?_
          rintro e w3 ⟨rfl, hb3⟩
          have HB3 := Lib.hid (hb2.trans (hb3.mono hb2.size))
          clear hb2 hb3
          go_wp2_with fail
          refine bodyPost_ret (v := .tuple #[.int .i32 (r), .int .i64 (6), .int .i64 (0)]) (by simp [results, Tryz.results94, go_sem]) rfl ⟨⟨r, 6, 0, rfl, HM.out⟩, HB3.out⟩
      rw [if_neg hr2] at HE
      have q1 : ¬ r < 55296 := fun h => hr2 (Or.inl h)
      have q2 : ¬ (57344 : Int) ≤ r := fun h => hr2 (Or.inr (by omega))
      clear hr2
      by_cases hr3 : 56319 < r
      · have HM : Hid (MarkOk (92 :: b :: t) 0 0 4) := Lib.hid (Or.inr (Or.inl ⟨rfl, by rw [HE.out, if_pos hr3]⟩))
        have q3 : (56320 : Int) ≤ r := by omega
        clear hr HE hfe hfl hfn HU2 hd6 he2 he hr1 h6 h6s hlt hr3
        go_enter Tryz.func94, Tryz.ntmps94
        go_wp2_with fail
        refine (HT.out _).mono ?_
        rintro e w2 ⟨rfl, hb2⟩
        go_wp2_with fail
        refine (HU.out _).mono ?_
        rintro e w3 ⟨rfl, hb3⟩
        have HB3 := Lib.hid (hb2.trans (hb3.mono hb2.size))
        clear hb2 hb3
        go_wp2_with fail
        refine bodyPost_ret (v := .tuple #[.int .i32 (0), .int .i64 (0), .int .i64 (4)]) (by simp [results, Tryz.results94, go_sem]) rfl ⟨⟨0, 0, 4, rfl, HM.out⟩, HB3.out⟩
      rw [if_neg hr3] at HE
      have q3 : ¬ (56320 : Int) ≤ r := by omega
      have hd := hd6 h6s
      have HU3 := Lib.hid (fun W => HU2.out W h6s)
      rw [hd] at HU3
      have hfe3 := four_err 6 0 0 ((92 :: b :: t).drop 6)
      have hfl3 := four_lt ((92 :: b :: t).drop 6)
      have hs6 : (6 : Int) ≤ (s.size : Int) := by omega
      by_cases hg : (fourP ((92 :: b :: t).drop 6)).2 = 0
      · have hlt3 := hfl3 hg
        have hg2 : (fourP ((92 :: b :: t).drop 6)) = ((fourP ((92 :: b :: t).drop 6)).1, 0) := by rw [← hg]
        generalize hr4 : (fourP ((92 :: b :: t).drop 6)).1 = g at *
        rw [hg2] at HU3 HE
        simp only [ne_eq, not_true_eq_false, if_false] at HE
        by_cases hr5 : g < 56320 ∨ 57343 < g
        · have HM : Hid (MarkOk (92 :: b :: t) 0 0 4) := Lib.hid (Or.inr (Or.inl ⟨rfl, by rw [HE.out, if_pos hr5]⟩))
          clear hr HE hfe hfl hfn HU2 hd6 he2 he hr1 h6 h6s hlt hr3 hd hfe3 hfl3 hg hg2 hr4 hlt3
          by_cases hr6 : g < 56320
          · clear hr5
            go_enter Tryz.func94, Tryz.ntmps94
            go_wp2_with fail
            refine (HT.out _).mono ?_
            rintro e w2 ⟨rfl, hb2⟩
            go_wp2_with fail
            refine (HU.out _).mono ?_
            rintro e w3 ⟨rfl, hb3⟩
            have HB3 := Lib.hid (hb2.trans (hb3.mono hb2.size))
            clear hb2 hb3
            go_wp2_with fail
            refine (HU3.out _).mono ?_
            rintro e w4 ⟨rfl, hb4⟩
            have HB4 := Lib.hid (HB3.out.trans (hb4.mono HB3.out.size))
            clear hb4
            clear HB3
            have HB3 := HB4
            clear HB4
            go_wp2_with fail
            refine bodyPost_ret (v := .tuple #[.int .i32 (0), .int .i64 (0), .int .i64 (4)]) (by simp [results, Tryz.results94, go_sem]) rfl ⟨⟨0, 0, 4, rfl, HM.out⟩, HB3.out⟩
          · have hr7 : (57344 : Int) ≤ g := by omega
            clear hr5
            go_enter Tryz.func94, Tryz.ntmps94
            go_wp2_with fail
            refine (HT.out _).mono ?_
            rintro e w2 ⟨rfl, hb2⟩
            go_wp2_with fail
            refine (HU.out _).mono ?_
            rintro e w3 ⟨rfl, hb3⟩
            have HB3 := Lib.hid (hb2.trans (hb3.mono hb2.size))
            clear hb2 hb3
            go_wp2_with fail
            refine (HU3.out _).mono ?_
            rintro e w4 ⟨rfl, hb4⟩
            have HB4 := Lib.hid (HB3.out.trans (hb4.mono HB3.out.size))
            clear hb4
            clear HB3
            have HB3 := HB4
            clear HB4
            go_wp2_with fail
            refine bodyPost_ret (v := .tuple #[.int .i32 (0), .int .i64 (0), .int .i64 (4)]) (by simp [results, Tryz.results94, go_sem]) rfl ⟨⟨0, 0, 4, rfl, HM.out⟩, HB3.out⟩
        · rw [if_neg hr5] at HE
          have q5 : ¬ g < 56320 := fun h => hr5 (Or.inl h)
          have q6 : ¬ (57344 : Int) ≤ g := fun h => hr5 (Or.inr (by omega))
          have v1 : IntKind.i32.wrap (r - 55296) = r - 55296 := by rw [IntKind.wrap_i32]; omega
          have v2 : IntKind.i32.wrap ((r - 55296) * 1024) = (r - 55296) * 1024 := by rw [IntKind.wrap_i32]; omega
          have v3 : IntKind.i32.wrap (65536 + (r - 55296) * 1024) = 65536 + (r - 55296) * 1024 := by rw [IntKind.wrap_i32]; omega
          have v4 : IntKind.i32.wrap (g - 56320) = g - 56320 := by rw [IntKind.wrap_i32]; omega
          have v5 : IntKind.i32.wrap (65536 + (r - 55296) * 1024 + (g - 56320)) = 65536 + (r - 55296) * 1024 + (g - 56320) := by rw [IntKind.wrap_i32]; omega
          have HM : Hid (MarkOk (92 :: b :: t) (65536 + (r - 55296) * 1024 + (g - 56320)) 12 0) := Lib.hid (mark_of (by rw [HE.out, show 65536 + 1024 * (r - 55296) + g - 56320 = 65536 + (r - 55296) * 1024 + (g - 56320) by omega]))
          clear hr HE hfe hfl hfn HU2 hd6 he2 he hr1 h6 h6s hlt hr3 hd hfe3 hfl3 hg hg2 hr4 hlt3 hr5
          go_enter Tryz.func94, Tryz.ntmps94
          go_wp2_with fail
          refine (HT.out _).mono ?_
          rintro e w2 ⟨rfl, hb2⟩
          go_wp2_with fail
          refine (HU.out _).mono ?_
          rintro e w3 ⟨rfl, hb3⟩
          have HB3 := Lib.hid (hb2.trans (hb3.mono hb2.size))
          clear hb2 hb3
          go_wp2_with fail
          refine (HU3.out _).mono ?_
          rintro e w4 ⟨rfl, hb4⟩
          have HB4 := Lib.hid (HB3.out.trans (hb4.mono HB3.out.size))
          clear hb4
          clear HB3
          have HB3 := HB4
          clear HB4
          go_wp2_with fail
          refine bodyPost_ret (v := .tuple #[.int .i32 (65536 + (r - 55296) * 1024 + (g - 56320)), .int .i64 (12), .int .i64 (0)]) (by simp [results, Tryz.results94, go_sem]) rfl ⟨⟨65536 + (r - 55296) * 1024 + (g - 56320), 12, 0, rfl, HM.out⟩, HB3.out⟩
      · have HM : Hid (MarkOk (92 :: b :: t) 0 0 (fourP ((92 :: b :: t).drop 6)).2) := Lib.hid (mark_err (by rw [HE.out, if_pos hg]) (hfe3.resolve_left hg))
        generalize fourP ((92 :: b :: t).drop 6) = G at *
        clear hr HE hfe hfl hfn HU2 hd6 he2 he hr1 h6 h6s hlt hr3 hd hfe3 hfl3
        go_enter Tryz.func94, Tryz.ntmps94
        go_wp2_with fail
        refine (HT.out _).mono ?_
        rintro e w2 ⟨rfl, hb2⟩
        go_wp2_with fail
        refine (HU.out _).mono ?_
        rintro e w3 ⟨rfl, hb3⟩
        have HB3 := Lib.hid (hb2.trans (hb3.mono hb2.size))
        clear hb2 hb3
        go_wp2_with fail
        refine (HU3.out _).mono ?_
        rintro e w4 ⟨rfl, hb4⟩
        have HB4 := Lib.hid (HB3.out.trans (hb4.mono HB3.out.size))
        clear hb4
        clear HB3
        have HB3 := HB4
        clear HB4
        go_wp2_with fail
        refine bodyPost_ret (v := .tuple #[.int .i32 (0), .int .i64 (0), .int .i64 (G.2)]) (by simp [results, Tryz.results94, go_sem]) rfl ⟨⟨0, 0, G.2, rfl, HM.out⟩, HB3.out⟩
    · have HM : Hid (MarkOk (92 :: b :: t) 0 0 (fourP (92 :: b :: t)).2) := Lib.hid (mark_err (by rw [HE.out, if_pos he]) (hfe.resolve_left he))
      generalize fourP (92 :: b :: t) = F at *
      clear hr HE hfe hfl hfn HU2 hd6
      go_enter Tryz.func94, Tryz.ntmps94
      go_wp2_with fail
      refine (HT.out _).mono ?_
      rintro e w2 ⟨rfl, hb2⟩
      go_wp2_with fail
      refine (HU.out _).mono ?_
      rintro e w3 ⟨rfl, hb3⟩
      have HB3 := Lib.hid (hb2.trans (hb3.mono hb2.size))
      clear hb2 hb3
      go_wp2_with fail
      refine bodyPost_ret (v := .tuple #[.int .i32 (0), .int .i64 (0), .int .i64 (F.2)]) (by simp [results, Tryz.results94, go_sem]) rfl ⟨⟨0, 0, F.2, rfl, HM.out⟩, HB3.out⟩
  · have HM : Hid (MarkOk (92 :: b :: t) (twoR b) 2 0) := Lib.hid (mark_of (esc_r hr))
    generalize twoR b = x at *
    clear HU HU2 hd6
    go_enter Tryz.func94, Tryz.ntmps94
    go_wp2_with fail
    refine (HT.out _).mono ?_
    rintro e w2 ⟨rfl, hb2⟩
    go_wp2_with fail
    refine bodyPost_ret (v := .tuple #[.int .i32 x, .int .i64 2, .int .i64 0]) (by simp [results, Tryz.results94, go_sem]) rfl ⟨⟨x, 2, 0, rfl, HM.out⟩, hb2⟩
theorem mark_any (s : ByteArray) (w : World) (hs : 0 < s.size) (hs2 : s.size ≤ 100000) (hh : (bI s).headD 0 = 92) : Calls Tryz.prog 94 #[.string s] w (MarkEnd (bI s) w) := by
  by_cases h : s.size = 1
  · exact mark_one s w h hh
  · exact mark_more s w (by omega) hs2 hh
end Go.Proofs.YtbkceneakdbdkaaGreatDoor
/- The program's plain, Count, Valid: ranges over a text. -/
namespace Go.Proofs.YtbkceneakdbdkaaGreatDoor
open Go.RowKit
set_option maxRecDepth 20000
set_option linter.unusedVariables false
set_option linter.unusedSimpArgs false
/-- What isLost tells in a round. -/
theorem lost_round (s : ByteArray) (i : Nat) (hi : i < s.size) : lostB (s.extract i s.size) (Utf8.decode s i).1 = decide (runeP ((bI s).drop i) = []) := by
  have h := lost_iff s i hi
  unfold lostB
  by_cases hl : runeP ((bI s).drop i) = []
  · obtain ⟨h1, h2⟩ := h.2 hl
    rw [h1, h2, decide_eq_true hl]; rfl
  · rw [decide_eq_false hl]
    cases hd : decide (((Utf8.decode s i).1 : Int) = 65533) with
    | false => rfl
    | true =>
      cases hp : Lib.hasPrefix (s.extract i s.size).data.toList [239, 191, 189] with
      | true => rfl
      | false => exact absurd (h.1 ⟨of_decide_eq_true hd, hp⟩) hl
theorem count_fin (s : ByteArray) (n : Nat) (T : Int) (k : Nat) (hk : ¬ k < s.size) (h : T = addC n (countP ((bI s).drop k))) : T = n := by
  rw [List.drop_of_length_le (by rw [bI_len]; omega), count_nil] at h
  rw [h]; unfold addC; rw [if_neg (by omega)]; omega
theorem drop_ne (s : ByteArray) (k : Nat) (hk : k < s.size) : (bI s).drop k ≠ [] := by
  intro e
  have := congrArg List.length e
  rw [List.length_drop, bI_len] at this
  simp at this
  omega
theorem count_bad (s : ByteArray) (n : Nat) (T : Int) (k : Nat) (hk : k < s.size) (hl : runeP ((bI s).drop k) = []) (h : T = addC n (countP ((bI s).drop k))) : T = -1 := by
  rw [count_step (drop_ne s k hk), if_pos hl] at h
  rw [h]; rfl
theorem count_go (s : ByteArray) (n : Nat) (T : Int) (k : Nat) (hk : k < s.size) (hl : runeP ((bI s).drop k) ≠ []) (h : T = addC n (countP ((bI s).drop k))) : T = addC (n + 1) (countP ((bI s).drop (k + (Utf8.decode s k).2))) := by
  rw [count_step (drop_ne s k hk), if_neg hl, List.drop_drop, ← (width_rune s k hk hl).1] at h
  rw [h]
  unfold addC
  by_cases hc : countP ((bI s).drop (k + (Utf8.decode s k).2)) < 0
  · rw [if_pos hc, if_pos (by omega), if_pos hc]
  · rw [if_neg hc, if_neg (by omega), if_neg hc]; omega
set_option maxHeartbeats 4000000 in
theorem jcount_any (s : ByteArray) (w : World) (hs : s.size ≤ 100000) : Calls Tryz.prog 73 #[.string s] w fun e w' => e = .returned (.int .i64 (countP (bI s))) ∧ Below w.heap.size w w' := by
  obtain ⟨T, hT⟩ : ∃ T, countP (bI s) = T := ⟨_, rfl⟩
  rw [hT]
  have H0 : Hid (T = addC 0 (countP ((bI s).drop 0))) := Lib.hid (by
    have h2 : -1 ≤ countP (bI s) := countF_ge (bI s).length (bI s)
    unfold addC
    rw [List.drop_zero, ← hT]
    split <;> omega)
  clear hT
  go_enter Tryz.func73, Tryz.ntmps73
  go_wp2_with fail
  go_loopw [3] (fun i wr => ∃ (k n : Nat), i = .int .i64 n ∧ n ≤ k ∧ Hid (T = addC n (countP ((bI s).drop k))) ∧ Hid (wr.heap[w.heap.size]? = some (.stringIter s k)) ∧ Hid (Below w.heap.size w wr)) (fun _ wr => s.size - wr.iterPos w.heap.size)
  case atStart => exact ⟨0, 0, rfl, Nat.le_refl _, H0, Lib.hid (World.iter_heap _ _ _), Lib.hid ((Below.refl _ _).alloc (Nat.le_refl _) _)⟩
  case round =>
    obtain ⟨k, n, rfl, hnk, HT, HIT, HB⟩ := hrel
    by_cases hp : k < s.size
    · have hnx := fun ty => Lib.run_next_any_at (P := Tryz.prog) wr w.heap.size s k ty HIT.out hp
      have hbd := dec_bd s k hp
      have HL := Lib.hid (fun W => islost_any (s.extract k s.size) (Utf8.decode s k).1 W)
      rw [lost_round s k hp] at HL
      have HW := Lib.hid (Lib.iterAt_heap wr w.heap.size s k (k + (Utf8.decode s k).2) HIT.out)
      have HB2 := Lib.hid (Lib.below_iterAt HB.out (k := w.heap.size) (Nat.le_refl _) s (k + (Utf8.decode s k).2))
      have hk1 : (k : Int) ≤ (s.size : Int) := by omega
      by_cases hl : runeP ((bI s).drop k) = []
      · have HF := Lib.hid (count_bad s n T k hp hl HT.out)
        rw [decide_eq_true hl] at HL
        generalize Utf8.decode s k = d at *
        clear hbd hl
        go_wp2_with fail
        refine (HL.out _).mono ?_
        rintro e w2 ⟨rfl, hb2⟩
        have HB3 := Lib.hid (HB2.out.trans (hb2.mono HB2.out.size))
        clear hb2
        go_wp2_with fail
        refine bodyPost_ret (v := .int .i64 (-1)) (by simp [results, Tryz.results73, go_sem]) rfl ⟨by rw [HF.out], HB3.out⟩
      · have HF := Lib.hid (count_go s n T k hp hl HT.out)
        rw [decide_eq_false hl] at HL
        generalize Utf8.decode s k = d at *
        have HD := Lib.hid hbd
        clear hbd hl
        go_wp2_with fail
        refine (HL.out _).mono ?_
        rintro e w2 ⟨rfl, hb2⟩
        have HB3 := Lib.hid (HB2.out.trans (hb2.mono HB2.out.size))
        have HW2 : Hid (w2.heap[w.heap.size]? = some (.stringIter s (k + d.2))) := Lib.hid (by rw [hb2.block _ (Array.getElem?_eq_some_iff.1 HW.out).1]; exact HW.out)
        clear hb2
        go_wp2_with fail
        go_roundw
        case rel => exact ⟨k + d.2, n + 1, by go_num, by have := HD.out; omega, HF, HW2, HB3⟩
        case measure =>
          have := HD.out
          simp only [World.iterPos, HW2.out, HIT.out]
          omega
    · have hnx := fun ty => Lib.run_next_end_at (P := Tryz.prog) wr w.heap.size s k ty HIT.out hp
      have HF := Lib.hid (count_fin s n T k hp HT.out)
      go_wp2_with fail
      go_ret
      exact ⟨by rw [HF.out]; rfl, HB.out⟩
theorem jvalid_any (s : ByteArray) (w : World) (hs : s.size ≤ 100000) : Calls Tryz.prog 51 #[.string s] w fun e w' => e = .returned (.bool (decide (0 ≤ countP (bI s)))) ∧ Below w.heap.size w w' := by
  have HC := Lib.hid (jcount_any s w hs)
  generalize countP (bI s) = c at *
  go_enter Tryz.func51, Tryz.ntmps51
  go_wp2_with fail
  refine HC.out.mono ?_
  rintro e w2 ⟨rfl, hb2⟩
  go_wp2_with fail
  go_ret
  exact ⟨rfl, hb2⟩
end Go.Proofs.YtbkceneakdbdkaaGreatDoor
/- The program's plain: how far bytes stand for themselves. -/
namespace Go.Proofs.YtbkceneakdbdkaaGreatDoor
open Go.RowKit
set_option maxRecDepth 20000
set_option linter.unusedVariables false
set_option linter.unusedSimpArgs false
def PlainEnd (s : ByteArray) (w : World) (e : Ending) (w' : World) : Prop := (∃ k : Nat, e = .returned (.int .i64 k) ∧ k ≤ s.size ∧ Adv (bI s) k ∧ ¬ Pl ((bI s).drop k)) ∧ Below w.heap.size w w'
theorem pl_nil (s : ByteArray) (k : Nat) (hk : ¬ k < s.size) : ¬ Pl ((bI s).drop k) := by
  rw [List.drop_of_length_le (by rw [bI_len]; omega)]
  rintro ⟨h, _⟩
  exact h rfl
set_option maxHeartbeats 4000000 in
theorem plain_any (s : ByteArray) (w : World) (hs : s.size ≤ 100000) : Calls Tryz.prog 93 #[.string s] w (PlainEnd s w) := by
  unfold PlainEnd
  go_enter Tryz.func93, Tryz.ntmps93
  go_wp2_with fail
  go_loopw [] (fun wr => ∃ (k : Nat), k ≤ s.size ∧ Hid (Adv (bI s) k) ∧ Hid (wr.heap[w.heap.size]? = some (.stringIter s k)) ∧ Hid (Below w.heap.size w wr)) (fun wr => s.size - wr.iterPos w.heap.size)
  case atStart => exact ⟨0, Nat.zero_le _, Lib.hid (adv_zero _), Lib.hid (World.iter_heap _ _ _), Lib.hid ((Below.refl _ _).alloc (Nat.le_refl _) _)⟩
  case round =>
    obtain ⟨k, hks, HA, HIT, HB⟩ := hrel
    by_cases hp : k < s.size
    · have hnx := fun ty => Lib.run_next_any_at (P := Tryz.prog) wr w.heap.size s k ty HIT.out hp
      have hbd := dec_bd s k hp
      have HL := Lib.hid (fun W => islost_any (s.extract k s.size) (Utf8.decode s k).1 W)
      rw [lost_round s k hp] at HL
      have HW := Lib.hid (Lib.iterAt_heap wr w.heap.size s k (k + (Utf8.decode s k).2) HIT.out)
      have HB2 := Lib.hid (Lib.below_iterAt HB.out (k := w.heap.size) (Nat.le_refl _) s (k + (Utf8.decode s k).2))
      have hk1 : (k : Int) ≤ (s.size : Int) := by omega
      have hpl := pl_iff s k hp
      have HK := Lib.hid hks
      clear hks
      by_cases h1 : ((Utf8.decode s k).1 : Int) < 32
      · have HN : Hid (¬ Pl ((bI s).drop k)) := Lib.hid (fun h => hpl.1 h (Or.inl h1))
        generalize Utf8.decode s k = d at *
        clear hbd hpl HL
        go_wp2_with fail
        go_ret
        exact ⟨⟨k, rfl, HK.out, HA.out, HN.out⟩, HB2.out⟩
      by_cases h2 : ((Utf8.decode s k).1 : Int) = 34
      · have HN : Hid (¬ Pl ((bI s).drop k)) := Lib.hid (fun h => hpl.1 h (Or.inr (Or.inl h2)))
        generalize Utf8.decode s k = d at *
        clear hbd hpl HL
        go_wp2_with fail
        go_ret
        exact ⟨⟨k, rfl, HK.out, HA.out, HN.out⟩, HB2.out⟩
      by_cases h3 : ((Utf8.decode s k).1 : Int) = 92
      · have HN : Hid (¬ Pl ((bI s).drop k)) := Lib.hid (fun h => hpl.1 h (Or.inr (Or.inr (Or.inl h3))))
        generalize Utf8.decode s k = d at *
        clear hbd hpl HL
        go_wp2_with fail
        go_ret
        exact ⟨⟨k, rfl, HK.out, HA.out, HN.out⟩, HB2.out⟩
      by_cases hl : runeP ((bI s).drop k) = []
      · have HN : Hid (¬ Pl ((bI s).drop k)) := Lib.hid (fun h => hpl.1 h (Or.inr (Or.inr (Or.inr hl))))
        rw [decide_eq_true hl] at HL
        generalize Utf8.decode s k = d at *
        clear hbd hpl hl
        go_wp2_with fail
        refine (HL.out _).mono ?_
        rintro e w2 ⟨rfl, hb2⟩
        have HB3 := Lib.hid (HB2.out.trans (hb2.mono HB2.out.size))
        clear hb2
        go_wp2_with fail
        go_ret
        exact ⟨⟨k, rfl, HK.out, HA.out, HN.out⟩, HB3.out⟩
      · have hP : Pl ((bI s).drop k) := hpl.2 (by rintro (h | h | h | h); exact h1 h; exact h2 h; exact h3 h; exact hl h)
        have HA2 := Lib.hid (adv_step HA.out hP)
        rw [← (width_rune s k hp hl).1] at HA2
        rw [decide_eq_false hl] at HL
        generalize Utf8.decode s k = d at *
        have HD := Lib.hid hbd
        have b2 : ((d.1 : Int) == 34) = false := by simpa using h2
        have b3 : ((d.1 : Int) == 92) = false := by simpa using h3
        clear hbd hpl hl hP
        go_wp2_with fail
        refine (HL.out _).mono ?_
        rintro e w2 ⟨rfl, hb2⟩
        have HB3 := Lib.hid (HB2.out.trans (hb2.mono HB2.out.size))
        have HW2 : Hid (w2.heap[w.heap.size]? = some (.stringIter s (k + d.2))) := Lib.hid (by rw [hb2.block _ (Array.getElem?_eq_some_iff.1 HW.out).1]; exact HW.out)
        clear hb2
        go_wp2_with fail
        refine ⟨⟨k + d.2, HD.out.2.2, HA2, HW2, HB3⟩, ?_⟩
        have := HD.out
        simp only [World.iterPos, HW2.out, HIT.out]
        omega
    · have hnx := fun ty => Lib.run_next_end_at (P := Tryz.prog) wr w.heap.size s k ty HIT.out hp
      have hk : k = s.size := by omega
      have HN : Hid (¬ Pl ((bI s).drop s.size)) := Lib.hid (pl_nil s s.size (by omega))
      subst hk
      clear hp hks
      go_wp2_with fail
      go_ret
      exact ⟨⟨s.size, rfl, Nat.le_refl _, HA.out, HN.out⟩, HB.out⟩
end Go.Proofs.YtbkceneakdbdkaaGreatDoor
/- The program's putRune: what stands for a rune in quotes. -/
namespace Go.Proofs.YtbkceneakdbdkaaGreatDoor
open Go.RowKit
set_option maxRecDepth 20000
set_option linter.unusedVariables false
set_option linter.unusedSimpArgs false
def PutEnd (B : Nat) (out : List Int) (c : Int) (W : World) (e : Ending) (W' : World) : Prop := e = .returned (.tuple #[]) ∧ Bd B (out ++ quoteB (encC c)) W' ∧ Below B W W' ∧ OK B W W'
theorem enc_low {c : Int} (h0 : 0 ≤ c) (h1 : c < 128) : encC c = [c] := by
  rcases encC_ways c with h | ⟨_, _, h⟩ | ⟨h, _⟩ | ⟨h, _⟩ | ⟨h, _⟩
  · have := (encC_nil c).1 h; omega
  · exact h
  all_goals omega
theorem quote_low {c : Int} (h0 : 0 ≤ c) (h1 : c < 128) : quoteB (encC c) = markP c := by
  rw [enc_low h0 h1]
  unfold quoteB
  rw [List.flatMap_cons, List.flatMap_nil, List.append_nil]
  unfold byteQ
  rw [if_pos h1]
theorem quote_high {c : Int} (h : 128 ≤ c) : quoteB (encC c) = encC c := quoteB_high _ (encC_high c h)
theorem letter_mark {c : Int} (h : letterP c ≠ 0) : 0 ≤ c ∧ c < 128 ∧ markP c = [92, letterP c] ∧ encC (letterP c) = [letterP c] := by
  unfold letterP markP at *
  split at h
  · subst c; decide
  split at h
  · subst c; decide
  split at h
  · subst c; decide
  split at h
  · subst c; decide
  split at h
  · subst c; decide
  split at h
  · subst c; decide
  split at h
  · subst c; decide
  · exact absurd rfl h
theorem letter_no {c : Int} (h : letterP c = 0) : markP c = if c < 32 then [92, 117, 48, 48, hexP (c / 16), hexP (c % 16)] else [c] := by
  unfold letterP at h
  unfold markP
  split at h
  · omega
  split at h
  · omega
  split at h
  · omega
  split at h
  · omega
  split at h
  · omega
  split at h
  · omega
  split at h
  · omega
  rename_i a b c' d e f g
  rw [if_neg a, if_neg b, if_neg c', if_neg d, if_neg e, if_neg f, if_neg g]
set_option maxHeartbeats 4000000 in
theorem put_mark (B : Nat) (out : List Int) (c : Int) (W : World) (h : Bd B out W) (hc : letterP c ≠ 0) (hl : out.length ≤ 900000) : Calls Tryz.prog 91 #[bp B, .int .i32 c] W (PutEnd B out c W) := by
  obtain ⟨h0, h1, h2, h3⟩ := letter_mark hc
  have HQ : Hid (out ++ quoteB (encC c) = (out ++ [92]) ++ encC (letterP c)) := Lib.hid (by rw [quote_low h0 h1, h2, h3, List.append_assoc]; rfl)
  have HL := Lib.hid (fun W => letter_any c W)
  have HB := Lib.hid (fun W1 (hb : Bd B out W1) => wb_any B out 92 W1 hb (by omega))
  have HR := Lib.hid (fun W1 (hb : Bd B (out ++ [92]) W1) => wr_any B (out ++ [92]) (letterP c) W1 hb (by rw [h3]; simp) (by rw [List.length_append]; simp; omega))
  have H0 := Lib.hid h
  have HW := Lib.hid h.lt
  unfold PutEnd
  rw [HQ.out]
  generalize letterP c = x at *
  clear HQ h0 h1 h2 h3 h hl
  go_enter Tryz.func91, Tryz.ntmps91
  go_wp2_with fail
  refine (HL.out _).mono ?_
  rintro e w1 ⟨rfl, hb1⟩
  have H1 := Lib.hid (H0.out.kept hb1)
  have HB1 := Lib.hid (hb1.mono (Nat.le_of_lt HW.out))
  have HO1 : Hid (OK B W w1) := Lib.hid (fun k o hk _ _ => by rw [hb1.block k (Array.getElem?_eq_some_iff.1 hk).1]; exact hk)
  clear hb1
  go_wp2_with fail
  refine (HB.out _ H1.out).mono ?_
  rintro e w2 ⟨rfl, g1, g2, g3⟩
  have H2 := Lib.hid g1
  have HB2 := Lib.hid (HB1.out.trans g2)
  have HO2 := Lib.hid (HO1.out.trans g3)
  clear g1 g2 g3
  go_wp2_with fail
  refine (HR.out _ H2.out).mono ?_
  rintro e w3 ⟨rfl, g1, g2, g3⟩
  have H3 := Lib.hid g1
  have HB3 := Lib.hid (HB2.out.trans g2)
  have HO3 := Lib.hid (HO2.out.trans g3)
  clear g1 g2 g3
  go_wp2_with fail
  refine bodyPost_ret (v := .tuple #[]) (by simp [results, Tryz.results91, go_sem]) rfl ⟨rfl, H3.out, HB3.out, HO3.out⟩
set_option maxHeartbeats 4000000 in
theorem put_self (B : Nat) (out : List Int) (c : Int) (W : World) (h : Bd B out W) (hn : encC c ≠ []) (hc : letterP c = 0) (h32 : 32 ≤ c) (hl : out.length ≤ 900000) : Calls Tryz.prog 91 #[bp B, .int .i32 c] W (PutEnd B out c W) := by
  have HQ : Hid (quoteB (encC c) = encC c) := Lib.hid (by
    by_cases h1 : c < 128
    · rw [quote_low (by omega) h1, letter_no hc, if_neg (by omega), enc_low (by omega) h1]
    · exact quote_high (by omega))
  have HL := Lib.hid (fun W => letter_any c W)
  rw [hc] at HL
  have HR := Lib.hid (fun W1 (hb : Bd B out W1) => wr_any B out c W1 hb hn (by omega))
  have H0 := Lib.hid h
  have HW := Lib.hid h.lt
  unfold PutEnd
  rw [HQ.out]
  have hlt : ¬ c < 32 := by omega
  clear HQ h hl hn hc h32
  go_enter Tryz.func91, Tryz.ntmps91
  go_wp2_with fail
  refine (HL.out _).mono ?_
  rintro e w1 ⟨rfl, hb1⟩
  have H1 := Lib.hid (H0.out.kept hb1)
  have HB1 := Lib.hid (hb1.mono (Nat.le_of_lt HW.out))
  have HO1 : Hid (OK B W w1) := Lib.hid (fun k o hk _ _ => by rw [hb1.block k (Array.getElem?_eq_some_iff.1 hk).1]; exact hk)
  clear hb1
  go_wp2_with fail
  refine (HR.out _ H1.out).mono ?_
  rintro e w3 ⟨rfl, g1, g2, g3⟩
  have H3 := Lib.hid g1
  have HB3 := Lib.hid (HB1.out.trans g2)
  have HO3 := Lib.hid (HO1.out.trans g3)
  clear g1 g2 g3
  go_wp2_with fail
  refine bodyPost_end (v := .tuple #[]) (by simp [results, Tryz.results91, go_sem]) rfl ⟨rfl, H3.out, HB3.out, HO3.out⟩
theorem hex_get (c : Int) (h0 : 0 ≤ c) (h : c.toNat < ({ data := #[48, 49, 50, 51, 52, 53, 54, 55, 56, 57, 97, 98, 99, 100, 101, 102] } : ByteArray).size) : ((({ data := #[48, 49, 50, 51, 52, 53, 54, 55, 56, 57, 97, 98, 99, 100, 101, 102] } : ByteArray)[c.toNat]'h).toNat : Int) = hexP c := by
  have h1 : c.toNat < 16 := h
  have h2 : c = 0 ∨ c = 1 ∨ c = 2 ∨ c = 3 ∨ c = 4 ∨ c = 5 ∨ c = 6 ∨ c = 7 ∨ c = 8 ∨ c = 9 ∨ c = 10 ∨ c = 11 ∨ c = 12 ∨ c = 13 ∨ c = 14 ∨ c = 15 := by omega
  rcases h2 with rfl | rfl | rfl | rfl | rfl | rfl | rfl | rfl | rfl | rfl | rfl | rfl | rfl | rfl | rfl | rfl <;> rfl
set_option maxHeartbeats 4000000 in
theorem put_hex (B : Nat) (out : List Int) (c : Int) (W : World) (h : Bd B out W) (hc : letterP c = 0) (h0 : 0 ≤ c) (h32 : c < 32) (hl : out.length ≤ 900000) : Calls Tryz.prog 91 #[bp B, .int .i32 c] W (PutEnd B out c W) := by
  have HQ : Hid (out ++ quoteB (encC c) = ((out ++ bI { data := #[92, 117, 48, 48] }) ++ [hexP (c / 16)]) ++ [hexP (c % 16)]) := Lib.hid (by
    rw [quote_low h0 (by omega), letter_no hc, if_pos h32, List.append_assoc, List.append_assoc]; rfl)
  have HL := Lib.hid (fun W => letter_any c W)
  rw [hc] at HL
  have HS := Lib.hid (fun W1 (hb : Bd B out W1) => ws_any B out { data := #[92, 117, 48, 48] } W1 hb (by omega) (by decide))
  have e4 : (bI { data := #[92, 117, 48, 48] }).length = 4 := rfl
  have HP := Lib.hid (fun W1 (hb : Bd B (out ++ bI { data := #[92, 117, 48, 48] }) W1) => wb_any B (out ++ bI { data := #[92, 117, 48, 48] }) (hexP (c / 16)) W1 hb (by rw [List.length_append, e4]; omega))
  have HR := Lib.hid (fun W1 (hb : Bd B ((out ++ bI { data := #[92, 117, 48, 48] }) ++ [hexP (c / 16)]) W1) => wb_any B ((out ++ bI { data := #[92, 117, 48, 48] }) ++ [hexP (c / 16)]) (hexP (c % 16)) W1 hb (by rw [List.length_append, List.length_append, e4]; simp; omega))
  have H0 := Lib.hid h
  have HW := Lib.hid h.lt
  unfold PutEnd
  rw [HQ.out]
  clear HQ h hl e4 hc
  generalize bI { data := #[92, 117, 48, 48] } = y at *
  go_enter Tryz.func91, Tryz.ntmps91
  go_wp2_with fail
  refine (HL.out _).mono ?_
  rintro e w1 ⟨rfl, hb1⟩
  have H1 := Lib.hid (H0.out.kept hb1)
  have HB1 := Lib.hid (hb1.mono (Nat.le_of_lt HW.out))
  have HO1 : Hid (OK B W w1) := Lib.hid (fun k o hk _ _ => by rw [hb1.block k (Array.getElem?_eq_some_iff.1 hk).1]; exact hk)
  clear hb1
  go_wp2_with fail
  refine (HS.out _ H1.out).mono ?_
  rintro e w2 ⟨rfl, g1, g2, g3⟩
  have H2 := Lib.hid g1
  have HB2 := Lib.hid (HB1.out.trans g2)
  have HO2 := Lib.hid (HO1.out.trans g3)
  clear g1 g2 g3
  go_wp2_with fail
  have e1 := hex_get (c / 16) (by omega)
  simp only [e1]
  refine (HP.out _ H2.out).mono ?_
  rintro e w3 ⟨rfl, g1, g2, g3⟩
  have H3 := Lib.hid g1
  have HB3 := Lib.hid (HB2.out.trans g2)
  have HO3 := Lib.hid (HO2.out.trans g3)
  clear g1 g2 g3 e1
  have a15 := i32_and15 c h0 (by omega)
  have a16 : 0 ≤ c % 16 ∧ c % 16 < 16 := by omega
  go_wp2_with fail
  have e1 := hex_get (c % 16) (by omega)
  simp only [e1]
  refine (HR.out _ H3.out).mono ?_
  rintro e w4 ⟨rfl, g1, g2, g3⟩
  have H4 := Lib.hid g1
  have HB4 := Lib.hid (HB3.out.trans g2)
  have HO4 := Lib.hid (HO3.out.trans g3)
  clear g1 g2 g3 e1
  go_wp2_with fail
  refine bodyPost_ret (v := .tuple #[]) (by simp [results, Tryz.results91, go_sem]) rfl ⟨rfl, H4.out, HB4.out, HO4.out⟩
theorem put_any (B : Nat) (out : List Int) (c : Int) (W : World) (h : Bd B out W) (hn : encC c ≠ []) (hl : out.length ≤ 900000) : Calls Tryz.prog 91 #[bp B, .int .i32 c] W (PutEnd B out c W) := by
  have h0 := enc_pos hn
  by_cases hc : letterP c = 0
  · by_cases h32 : c < 32
    · exact put_hex B out c W h hc h0.1 h32 hl
    · exact put_self B out c W h hn hc (by omega) hl
  · exact put_mark B out c W h hc hl
end Go.Proofs.YtbkceneakdbdkaaGreatDoor
/- The program's Quote. -/
namespace Go.Proofs.YtbkceneakdbdkaaGreatDoor
open Go.RowKit
set_option maxRecDepth 20000
set_option linter.unusedVariables false
set_option linter.unusedSimpArgs false
structure QInv (s : ByteArray) (k : Nat) (out : List Int) : Prop where
  le : k ≤ s.size
  cnt : countP (bI s) < 0 ↔ countP ((bI s).drop k) < 0
  out_ : out = 34 :: quoteB ((bI s).take k)
theorem QInv.zero (s : ByteArray) : QInv s 0 ([] ++ [34]) := ⟨Nat.zero_le _, by rw [List.drop_zero], by rw [List.take_zero]; rfl⟩
theorem QInv.len {s : ByteArray} {k : Nat} {out : List Int} (h : QInv s k out) : out.length ≤ 6 * s.size + 1 := by
  have h1 := quoteB_len ((bI s).take k)
  have h2 : ((bI s).take k).length ≤ s.size := by rw [List.length_take, bI_len]; omega
  rw [h.out_, List.length_cons]
  omega
theorem QInv.bad {s : ByteArray} {k : Nat} {out : List Int} (h : QInv s k out) (hk : k < s.size) (hl : runeP ((bI s).drop k) = []) : quoteP (bI s) = ([], 4) := by
  have h1 : countP (bI s) < 0 := h.cnt.2 (by rw [count_step (drop_ne s k hk), if_pos hl]; decide)
  unfold quoteP
  rw [if_pos h1]
theorem QInv.step {s : ByteArray} {k : Nat} {out : List Int} (h : QInv s k out) (hk : k < s.size) (hl : runeP ((bI s).drop k) ≠ []) : QInv s (k + (Utf8.decode s k).2) (out ++ quoteB (encC (Utf8.decode s k).1)) := by
  obtain ⟨h1, h2⟩ := width_rune s k hk hl
  refine ⟨(dec_bd s k hk).2.2, ?_, ?_⟩
  · rw [h.cnt, count_step (drop_ne s k hk), if_neg hl, List.drop_drop, ← h1]
    constructor
    · intro hq
      split at hq
      · assumption
      · omega
    · intro hq
      rw [if_pos hq]; decide
  · rw [h.out_, List.take_add, quoteB_append, h1, rune_take _ hl, h2]
    rfl
theorem QInv.fin {s : ByteArray} {k : Nat} {out : List Int} (h : QInv s k out) (hk : ¬ k < s.size) : quoteP (bI s) = (out ++ [34], 0) := by
  have e : k = s.size := by have := h.le; omega
  have h1 : ¬ countP (bI s) < 0 := by
    rw [h.cnt, List.drop_of_length_le (by rw [bI_len]; omega), count_nil]
    decide
  unfold quoteP
  rw [if_neg h1, h.out_, List.take_of_length_le (by rw [bI_len]; omega)]
theorem QInv.byte {s : ByteArray} {k : Nat} {out : List Int} (h : QInv s k out) (hk : ¬ k < s.size) : ∀ b ∈ out ++ [34], 0 ≤ b ∧ b < 256 := by
  have hq := h.fin hk
  have hc : ¬ countP (bI s) < 0 := by
    intro hc
    unfold quoteP at hq
    rw [if_pos hc] at hq
    injection hq with h1 h2
    cases h2
  obtain ⟨n, hv, _⟩ := count_of (l := bI s) (by omega)
  have e : k = s.size := by have := h.le; omega
  have ht : (bI s).take k = bI s := List.take_of_length_le (by rw [bI_len]; omega)
  intro b hb
  rw [h.out_, ht] at hb
  rcases List.mem_append.1 hb with hb | hb
  · rcases List.mem_cons.1 hb with rfl | hb
    · decide
    · have := quoteB_byte hv b hb; omega
  · rw [List.mem_singleton] at hb; subst hb; decide
set_option maxHeartbeats 4000000 in
theorem jquote_any (s : ByteArray) (w : World) (hs : s.size ≤ 10000) : Calls Tryz.prog 71 #[.string s] w fun e w' => e = .returned (.tuple #[.string (str (quoteP (bI s)).1), .int .i64 (quoteP (bI s)).2]) ∧ Below w.heap.size w w' := by
  have e0 : str [] = { data := #[] } := rfl
  have HB0 := Lib.hid (wb_any w.heap.size [] 34 _ (Bd.fresh w) (by decide))
  go_enter Tryz.func71, Tryz.ntmps71
  go_wp2_with fail
  refine HB0.out.mono ?_
  rintro e w1 ⟨rfl, g1, g2, g3⟩
  have H1 := Lib.hid (g1.alloc (.stringIter s 0))
  have HS1 : Hid (w.heap.size < w1.heap.size) := Lib.hid g1.lt
  have HB1 : Hid (Below w.heap.size w w1) := Lib.hid (((Below.refl _ w).alloc (Nat.le_refl _) _).trans g2)
  clear g1 g2 g3 HB0
  go_wp2_with fail
  go_loopw [] (fun wr => ∃ (k : Nat) (out : List Int), Hid (QInv s k out) ∧ Hid (Bd w.heap.size out wr) ∧ Hid (wr.heap[w1.heap.size]? = some (.stringIter s k)) ∧ Hid (Below w.heap.size w wr)) (fun wr => s.size - wr.iterPos w1.heap.size)
  case atStart => exact ⟨0, _, Lib.hid (QInv.zero s), H1, Lib.hid (World.iter_heap _ _ _), Lib.hid (HB1.out.alloc (Nat.le_of_lt HS1.out) _)⟩
  case round =>
    obtain ⟨k, out, HQ, HD, HIT, HB⟩ := hrel
    have hol := HQ.out.len
    have hs2 : out.length ≤ 900000 := by omega
    have HO := Lib.hid hol
    clear hol
    have HKS : Hid (k ≤ s.size) := Lib.hid HQ.out.le
    by_cases hp : k < s.size
    · have hnx := fun ty => Lib.run_next_any_at (P := Tryz.prog) wr w1.heap.size s k ty HIT.out hp
      have hbd := dec_bd s k hp
      have HL := Lib.hid (fun W => islost_any (s.extract k s.size) (Utf8.decode s k).1 W)
      rw [lost_round s k hp] at HL
      have HW := Lib.hid (Lib.iterAt_heap wr w1.heap.size s k (k + (Utf8.decode s k).2) HIT.out)
      have HB2 := Lib.hid (Lib.below_iterAt HB.out (k := w1.heap.size) (Nat.le_of_lt HS1.out) s (k + (Utf8.decode s k).2))
      have HD2 := Lib.hid (HD.out.iterAt HIT.out (k + (Utf8.decode s k).2))
      have hk1 : (k : Int) ≤ (s.size : Int) := by omega
      by_cases hl : runeP ((bI s).drop k) = []
      · have HF := Lib.hid (HQ.out.bad hp hl)
        rw [decide_eq_true hl] at HL
        generalize Utf8.decode s k = d at *
        clear hbd hl
        go_wp2_with fail
        refine (HL.out _).mono ?_
        rintro e w2 ⟨rfl, hb2⟩
        have HB3 := Lib.hid (HB2.out.trans (hb2.mono HB2.out.size))
        clear hb2
        go_wp2_with fail
        refine bodyPost_ret (v := .tuple #[.string { data := #[] }, .int .i64 4]) (by simp [results, Tryz.results71, go_sem]) rfl ⟨by rw [HF.out, e0], HB3.out⟩
      · have HQ2 := Lib.hid (HQ.out.step hp hl)
        have HN : Hid (encC ((Utf8.decode s k).1 : Int) ≠ []) := Lib.hid (by rw [(width_rune s k hp hl).2]; exact hl)
        rw [decide_eq_false hl] at HL
        generalize Utf8.decode s k = d at *
        have HD3 := Lib.hid hbd
        have HP := Lib.hid (fun W (hb : Bd w.heap.size out W) => put_any w.heap.size out d.1 W hb HN.out hs2)
        unfold PutEnd at HP
        clear hbd hl hs2
        go_wp2_with fail
        refine (HL.out _).mono ?_
        rintro e w2 ⟨rfl, hb2⟩
        have HB3 := Lib.hid (HB2.out.trans (hb2.mono HB2.out.size))
        have HW2 : Hid (w2.heap[w1.heap.size]? = some (.stringIter s (k + d.2))) := Lib.hid (by rw [hb2.block _ (Array.getElem?_eq_some_iff.1 HW.out).1]; exact HW.out)
        have HD4 := Lib.hid (HD2.out.kept hb2)
        clear hb2
        go_wp2_with fail
        refine (HP.out _ HD4.out).mono ?_
        rintro e w3 ⟨rfl, g1, g2, g3⟩
        have HD5 := Lib.hid g1
        have HB5 := Lib.hid (HB3.out.trans g2)
        have HW5 := Lib.hid (Lib.OthersKept.iter g3 HW2.out (by have := HS1.out; omega))
        clear g1 g2 g3
        go_wp2_with fail
        refine ⟨⟨k + d.2, _, HQ2, HD5, HW5, HB5⟩, ?_⟩
        have := HD3.out
        simp only [World.iterPos, HW5.out, HIT.out]
        omega
    · have hnx := fun ty => Lib.run_next_end_at (P := Tryz.prog) wr w1.heap.size s k ty HIT.out hp
      have HF := Lib.hid (HQ.out.fin hp)
      have HY := Lib.hid (HQ.out.byte hp)
      have HP := Lib.hid (fun W (hb : Bd w.heap.size out W) => wb_any w.heap.size out 34 W hb (by omega))
      have HT := Lib.hid (fun W (hb : Bd w.heap.size (out ++ [34]) W) => st_any w.heap.size (out ++ [34]) W hb HY.out)
      clear hs2
      go_wp2_with fail
      refine (HP.out _ HD.out).mono ?_
      rintro e w2 ⟨rfl, g1, g2, g3⟩
      have HD2 := Lib.hid g1
      have HB2 := Lib.hid (HB.out.trans g2)
      clear g1 g2 g3
      go_wp2_with fail
      refine (HT.out _ HD2.out).mono ?_
      rintro e w3 ⟨rfl, g2⟩
      have HB3 := Lib.hid (HB2.out.trans g2)
      clear g2
      go_wp2_with fail
      refine bodyPost_ret (v := .tuple #[.string (str (out ++ [34])), .int .i64 0]) (by simp [results, Tryz.results71, go_sem]) rfl ⟨by rw [HF.out], HB3.out⟩
end Go.Proofs.YtbkceneakdbdkaaGreatDoor
/- The program's takeRunes, Take, Unquote. -/
namespace Go.Proofs.YtbkceneakdbdkaaGreatDoor
open Go.RowKit
set_option maxRecDepth 20000
set_option linter.unusedVariables false
set_option linter.unusedSimpArgs false
structure TInv (s : ByteArray) (R : List Int × Nat × Int) (p : Nat) (out : List Int) : Prop where
  le : p ≤ s.size
  run : R = takeG s.size ((bI s).drop p) p out
  len : out.length ≤ 4 * p
  byte : ∀ b ∈ out, 0 ≤ b ∧ b < 256
theorem TInv.plain {s : ByteArray} {R : List Int × Nat × Int} {p k : Nat} {out : List Int} (h : TInv s R p out) (hk : Adv ((bI s).drop p) k) : TInv s R (p + k) (out ++ ((bI s).drop p).take k) := by
  have h1 := hk.1
  have hp := h.le
  rw [List.length_drop, bI_len] at h1
  refine ⟨by omega, ?_, ?_, ?_⟩
  · rw [h.run, hk.2 _ _ _ (by rw [List.length_drop, bI_len]; omega), List.drop_drop]
  · have := h.len
    rw [List.length_append, List.length_take, List.length_drop, bI_len]
    omega
  · intro b hb
    rcases List.mem_append.1 hb with hb | hb
    · exact h.byte b hb
    · exact bI_byte s b (List.mem_of_mem_drop (List.mem_of_mem_take hb))
theorem TInv.short {s : ByteArray} {R : List Int × Nat × Int} {p : Nat} {out : List Int} (h : TInv s R p out) (hs : stepP ((bI s).drop p) = .short) : R = ([], s.size, 3) := by
  have hp := h.le
  have e : p + ((bI s).drop p).length = s.size := by rw [List.length_drop, bI_len]; omega
  rw [h.run]
  cases hf : s.size with
  | zero => rw [takeG, ← hf, e]
  | succ f =>
    rw [takeG_step, hs]
    show ([], p + _, 3) = _
    rw [e, hf]
theorem TInv.pos {s : ByteArray} {R : List Int × Nat × Int} {p : Nat} {out : List Int} (h : TInv s R p out) (hp : p < s.size) : ∃ f, s.size = f + 1 ∧ R = match stepP ((bI s).drop p) with
    | .short => ([], p + ((bI s).drop p).length, 3)
    | .form => ([], p, 4)
    | .fin => (out, p + 1, 0)
    | .piece t n => takeG f (((bI s).drop p).drop n) (p + n) (out ++ t) := by
  obtain ⟨f, hf⟩ : ∃ f, s.size = f + 1 := ⟨s.size - 1, by omega⟩
  refine ⟨f, hf, ?_⟩
  have := h.run
  rw [hf, takeG_step] at this
  exact this
theorem TInv.form {s : ByteArray} {R : List Int × Nat × Int} {p : Nat} {out : List Int} (h : TInv s R p out) (hp : p < s.size) (hs : stepP ((bI s).drop p) = .form) : R = ([], p, 4) := by
  obtain ⟨f, _, hr⟩ := h.pos hp
  rw [hs] at hr; exact hr
theorem TInv.fin {s : ByteArray} {R : List Int × Nat × Int} {p : Nat} {out : List Int} (h : TInv s R p out) (hp : p < s.size) (hs : stepP ((bI s).drop p) = .fin) : R = (out, p + 1, 0) := by
  obtain ⟨f, _, hr⟩ := h.pos hp
  rw [hs] at hr; exact hr
theorem TInv.piece {s : ByteArray} {R : List Int × Nat × Int} {p n : Nat} {c : Int} {out : List Int} (h : TInv s R p out) (hp : p < s.size) (hs : stepP ((bI s).drop p) = .piece (encC c) n) (h1 : 1 ≤ n) (h2 : n ≤ ((bI s).drop p).length) : TInv s R (p + n) (out ++ encC c) := by
  obtain ⟨f, hf, hr⟩ := h.pos hp
  rw [hs] at hr
  rw [List.length_drop, bI_len] at h2
  refine ⟨by omega, ?_, ?_, ?_⟩
  · rw [hr]
    show takeG f (((bI s).drop p).drop n) _ _ = _
    rw [List.drop_drop, takeG_fuel f s.size _ _ _ (by rw [List.length_drop, bI_len]; omega) (by rw [List.length_drop, bI_len]; omega)]
  · have := h.len
    have := encC_len c
    rw [List.length_append]; omega
  · intro b hb
    rcases List.mem_append.1 hb with hb | hb
    · exact h.byte b hb
    · exact encC_byte c b hb
theorem at_split (s : ByteArray) (p : Nat) (h : p < s.size) : (bI s).drop p = ((s[p]'h).toNat : Int) :: (bI s).drop (p + 1) := by
  have h1 := bI_get s p h
  have hk : p < (bI s).length := by rw [bI_len]; exact h
  rw [List.drop_eq_getElem_cons hk]
  rw [List.getElem?_eq_getElem hk] at h1
  injection h1 with h2
  rw [h2]
def TakeEnd (R : List Int × Nat × Int) (w : World) (e : Ending) (w' : World) : Prop := e = .returned (.tuple #[.string (str R.1), .int .i64 (R.2.1 : Nat), .int .i64 R.2.2]) ∧ Below w.heap.size w w'
def addNat : Value → Nat
  | .int _ n => n.toNat
  | _ => 0
set_option maxHeartbeats 8000000 in
theorem runes_any (s : ByteArray) (p0 : Nat) (w : World) (hp0 : p0 ≤ s.size) (hs : s.size ≤ 10000) : Calls Tryz.prog 76 #[.string s, .int .i64 p0] w (TakeEnd (takeG s.size ((bI s).drop p0) p0 []) w) := by
  have H0 : Hid (TInv s (takeG s.size ((bI s).drop p0) p0 []) p0 []) := Lib.hid ⟨hp0, rfl, by simp, by simp⟩
  generalize takeG s.size ((bI s).drop p0) p0 [] = R at *
  have e0 : str [] = { data := #[] } := rfl
  have HD0 := Lib.hid (Bd.fresh w)
  have HB0 : Hid (Below w.heap.size w (w.alloc (.cells #[.pointer none, .slice none 0 0] 62))) := Lib.hid ((Below.refl _ w).alloc (Nat.le_refl _) _)
  unfold TakeEnd
  clear hp0
  go_enter Tryz.func76, Tryz.ntmps76
  go_wp2_with fail
  go_loopw [1] (fun i wr => ∃ (p : Nat) (out : List Int), i = .int .i64 p ∧ Hid (TInv s R p out) ∧ Hid (Bd w.heap.size out wr) ∧ Hid (Below w.heap.size w wr)) (fun i _ => s.size - addNat i)
  case atStart => exact ⟨p0, [], rfl, H0, HD0, HB0⟩
  case round =>
    obtain ⟨p, out, rfl, HI, HD, HB⟩ := hrel
    have hle := HI.out.le
    have hps : (p : Int) ≤ (s.size : Int) := by omega
    have hln := HI.out.len
    have HPL := Lib.hid (fun W => plain_any (s.extract p s.size) W (by rw [ByteArray.size_extract]; omega))
    unfold PlainEnd at HPL
    rw [bI_from s p hle] at HPL
    have HLN := Lib.hid (show out.length ≤ 4 * p ∧ p ≤ s.size from ⟨hln, hle⟩)
    clear hln hle
    go_wp2_with fail
    refine (HPL.out _).mono ?_
    rintro e w1 ⟨⟨k, rfl, hk1, hk2, hk3⟩, hb1⟩
    obtain ⟨q, hq⟩ : ∃ q, p + k = q := ⟨_, rfl⟩
    have hq2 : (p : Int) + (k : Int) = (q : Int) := by omega
    have hle := HLN.out.2
    have hqs : q ≤ s.size := by rw [ByteArray.size_extract] at hk1; omega
    have hpq : (p : Int) ≤ (q : Int) := by omega
    have hqi : (q : Int) ≤ (s.size : Int) := by omega
    have hbe : bI (s.extract p q) = ((bI s).drop p).take k := by rw [bI_extract _ _ _ (by omega), show q - p = k by omega]
    have HI1 : Hid (TInv s R q (out ++ bI (s.extract p q))) := Lib.hid (by rw [hbe, ← hq]; exact HI.out.plain hk2)
    have HNP : Hid (¬ Pl ((bI s).drop q)) := Lib.hid (by rw [← hq, ← List.drop_drop]; exact hk3)
    have HD1 := Lib.hid (HD.out.kept hb1)
    have HB1 := Lib.hid (HB.out.trans (hb1.mono HB.out.size))
    have HWS := Lib.hid (fun W (hb : Bd w.heap.size out W) => ws_any w.heap.size out (s.extract p q) W hb (by have := HLN.out.1; omega) (by rw [ByteArray.size_extract]; omega))
    have wq : IntKind.i64.wrap (q : Int) = (q : Int) := by rw [IntKind.wrap_i64]; omega
    have HPQ : Hid (p ≤ q) := Lib.hid (by omega)
    generalize out ++ bI (s.extract p q) = out1 at *
    clear hq hk1 hk2 hk3 hb1 hbe hle hpq
    go_wp2_with fail
    refine (HWS.out _ HD1.out).mono ?_
    rintro e w2 ⟨rfl, g1, g2, g3⟩
    have HD2 := Lib.hid g1
    have HB2 := Lib.hid (HB1.out.trans g2)
    clear g1 g2 g3
    by_cases hend : q = s.size
    · have HR : Hid (R = ([], q, 3)) := Lib.hid (by rw [hend]; exact HI1.out.short (by rw [List.drop_of_length_le (by rw [bI_len]; omega)]; rfl))
      have hend2 : (q : Int) = (s.size : Int) := by omega
      have hend3 : ((q : Int) == (s.size : Int)) = true := by simpa using hend2
      clear hend hend2
      go_wp2_with fail
      refine bodyPost_ret (v := .tuple #[.string { data := #[] }, .int .i64 q, .int .i64 3]) (by simp [results, Tryz.results76, go_sem]) rfl ⟨by rw [HR.out, e0], HB2.out⟩
    have hlt : q < s.size := by omega
    have hlt2 : (q : Int) < (s.size : Int) := by omega
    have hend3 : ((q : Int) == (s.size : Int)) = false := by
      rw [beq_eq_false_iff_ne]; omega
    have hsp := at_split s q hlt
    have hbl := (s[q]'hlt).toNat_lt
    obtain ⟨b, hbv⟩ : ∃ b : Int, ((s[q]'hlt).toNat : Int) = b := ⟨_, rfl⟩
    rw [hbv] at hsp
    clear hend
    by_cases h34 : b = 34
    · have HR : Hid (R = (out1, q + 1, 0)) := Lib.hid (HI1.out.fin hlt (by rw [hsp, h34]; exact step_34 _))
      have HST := Lib.hid (fun W (hb : Bd w.heap.size out1 W) => st_any w.heap.size out1 W hb HI1.out.byte)
      have w1q : IntKind.i64.wrap ((q : Int) + 1) = (q : Int) + 1 := by rw [IntKind.wrap_i64]; omega
      subst h34
      clear hsp hbl
      go_wp2_with fail
      refine (HST.out _ HD2.out).mono ?_
      rintro e w3 ⟨rfl, g2⟩
      have HB3 := Lib.hid (HB2.out.trans g2)
      clear g2
      go_wp2_with fail
      refine bodyPost_ret (v := .tuple #[.string (str out1), .int .i64 ((q : Int) + 1), .int .i64 0]) (by simp [results, Tryz.results76, go_sem]) rfl ⟨by rw [HR.out]; rfl, HB3.out⟩
    have b34 : (b == 34) = false := by rw [beq_eq_false_iff_ne]; exact h34
    by_cases h92 : b = 92
    · subst h92
      have hst : stepP ((bI s).drop q) = escP ((bI s).drop q) := by rw [hsp]; exact step_esc _
      have hfr := bI_from s q (Nat.le_of_lt hlt)
      have HMK := Lib.hid (fun W => mark_any (s.extract q s.size) W (by rw [ByteArray.size_extract]; omega) (by rw [ByteArray.size_extract]; omega) (by rw [hfr, hsp]; rfl))
      unfold MarkEnd at HMK
      rw [hfr] at HMK
      have HST := Lib.hid hst
      have HLEN : Hid (((bI s).drop q).length = s.size - q) := Lib.hid (by rw [List.length_drop, bI_len])
      have HLT := Lib.hid hlt
      clear hsp hbl hfr hst
      go_wp2_with fail
      refine (HMK.out _).mono ?_
      rintro e w3 ⟨⟨c, n, er, rfl, hok⟩, hb3⟩
      have HB3 := Lib.hid (HB2.out.trans (hb3.mono HB2.out.size))
      have HD3 := Lib.hid (HD2.out.kept hb3)
      clear hb3
      rcases hok with ⟨rfl, h1⟩ | ⟨rfl, h1⟩ | ⟨rfl, h1, h2, h3, h4⟩
      · have HR : Hid (R = ([], s.size, 3)) := Lib.hid (HI1.out.short (by rw [HST.out]; exact h1))
        clear h1
        go_wp2_with fail
        refine bodyPost_ret (v := .tuple #[.string { data := #[] }, .int .i64 s.size, .int .i64 3]) (by simp [results, Tryz.results76, go_sem]) rfl ⟨by rw [HR.out, e0], HB3.out⟩
      · have HR : Hid (R = ([], q, 4)) := Lib.hid (HI1.out.form HLT.out (by rw [HST.out]; exact h1))
        clear h1
        go_wp2_with fail
        refine bodyPost_ret (v := .tuple #[.string { data := #[] }, .int .i64 q, .int .i64 4]) (by simp [results, Tryz.results76, go_sem]) rfl ⟨by rw [HR.out, e0], HB3.out⟩
      · have HI2 := Lib.hid (HI1.out.piece HLT.out (by rw [HST.out]; exact h1) h3 h4)
        have HL1 : Hid (out1.length ≤ 900000) := Lib.hid (by have := HI1.out.len; omega)
        have HWR := Lib.hid (fun W (hb : Bd w.heap.size out1 W) => wr_any w.heap.size out1 c W hb h2 (by have := HL1.out; omega))
        have hn : n ≤ s.size - q := by rw [← HLEN.out]; exact h4
        have wn : IntKind.i64.wrap ((q : Int) + (n : Int)) = (q : Int) + (n : Int) := by rw [IntKind.wrap_i64]; omega
        have HN := Lib.hid (show 1 ≤ n ∧ n ≤ s.size - q from ⟨h3, hn⟩)
        clear h1 h2 h3 h4 hn
        go_wp2_with fail
        refine (HWR.out _ HD3.out).mono ?_
        rintro e w4 ⟨rfl, g1, g2, g3⟩
        have HD4 := Lib.hid g1
        have HB4 := Lib.hid (HB3.out.trans g2)
        clear g1 g2 g3
        go_wp2_with fail
        refine ⟨⟨q + n, _, by go_num, HI2, HD4, HB4⟩, ?_⟩
        have := HN.out
        have := HPQ.out
        have := HLT.out
        simp only [addNat]
        omega
    · have HR : Hid (R = ([], q, 4)) := Lib.hid (HI1.out.form hlt (step_not HNP.out (by rw [hsp]; simp) (by rw [hsp]; exact h34) (by rw [hsp]; exact h92)))
      have b92 : (b == 92) = false := by rw [beq_eq_false_iff_ne]; exact h92
      clear hsp hbl
      go_wp2_with fail
      refine bodyPost_ret (v := .tuple #[.string { data := #[] }, .int .i64 q, .int .i64 4]) (by simp [results, Tryz.results76, go_sem]) rfl ⟨by rw [HR.out, e0], HB2.out⟩
theorem takeP_at (l : List Int) (p : Nat) (hp : p < l.length) (h : l.getD p 0 = 34) : takeP l p = takeG l.length (l.drop (p + 1)) (p + 1) [] := by
  unfold takeP
  rw [if_neg (by omega), if_neg (by omega), if_neg (by rw [Int.toNat_natCast]; exact fun hq => hq h)]
  rw [Int.toNat_natCast]
set_option maxHeartbeats 2000000 in
theorem jtake_any (s : ByteArray) (p : Nat) (w : World) (hp : p ≤ s.size) (hs : s.size ≤ 10000) : Calls Tryz.prog 59 #[.string s, .int .i64 p] w fun e w' => e = .returned (.tuple #[.string (str (takeP (bI s) p).1), .int .i64 ((takeP (bI s) p).2.1 : Nat), .int .i64 (takeP (bI s) p).2.2]) ∧ Below w.heap.size w w' := by
  have e0 : str [] = { data := #[] } := rfl
  have hl := bI_len s
  have n0 : ¬ (p : Int) < 0 := by omega
  by_cases he : p = s.size
  · have HR : Hid (takeP (bI s) p = ([], p, 3)) := Lib.hid (by
      unfold takeP
      rw [if_neg (by omega), if_pos (by omega), Int.toNat_natCast])
    rw [HR.out, e0]
    have q1 : (p : Int) ≤ (s.size : Int) := by omega
    have q2 : ((p : Int) == (s.size : Int)) = true := by simpa using (show (p : Int) = s.size by omega)
    clear HR hl he hp
    go_enter Tryz.func59, Tryz.ntmps59
    go_wp2_with fail
    refine bodyPost_ret (v := .tuple #[.string { data := #[] }, .int .i64 p, .int .i64 3]) (by simp [results, Tryz.results59, go_sem]) rfl ⟨rfl, by go_grown⟩
  have hlt : p < s.size := by omega
  have hsp := at_split s p hlt
  have hgd : (bI s).getD p 0 = ((s[p]'hlt).toNat : Int) := by
    rw [List.getD_eq_getElem?_getD, bI_get s p hlt]; rfl
  have hbl := (s[p]'hlt).toNat_lt
  obtain ⟨b, hbv⟩ : ∃ b : Int, ((s[p]'hlt).toNat : Int) = b := ⟨_, rfl⟩
  rw [hbv] at hgd
  have q1 : (p : Int) < (s.size : Int) := by omega
  have q2 : ((p : Int) == (s.size : Int)) = false := by rw [beq_eq_false_iff_ne]; omega
  by_cases h34 : b = 34
  · have HR : Hid (takeP (bI s) p = takeG s.size ((bI s).drop (p + 1)) (p + 1) []) := Lib.hid (by
      rw [takeP_at _ _ (by omega) (by rw [hgd, h34]), hl])
    have HK := Lib.hid (fun W => runes_any s (p + 1) W (by omega) hs)
    unfold TakeEnd at HK
    rw [HR.out]
    generalize takeG s.size ((bI s).drop (p + 1)) (p + 1) [] = R at *
    have w1 : IntKind.i64.wrap ((p : Int) + 1) = ((p + 1 : Nat) : Int) := by rw [IntKind.wrap_i64]; omega
    subst h34
    clear HR hsp hbl hgd hl he
    go_enter Tryz.func59, Tryz.ntmps59
    go_wp2_with fail
    refine (HK.out _).mono ?_
    rintro e w1 ⟨rfl, hb1⟩
    go_wp2_with fail
    refine bodyPost_ret (v := .tuple #[.string (str R.1), .int .i64 (R.2.1 : Nat), .int .i64 R.2.2]) (by simp [results, Tryz.results59, go_sem]) rfl ⟨rfl, hb1⟩
  · have HR : Hid (takeP (bI s) p = ([], p, 4)) := Lib.hid (by
      unfold takeP
      rw [if_neg (by omega), if_neg (by omega), Int.toNat_natCast, if_pos (by rw [hgd]; exact h34)])
    rw [HR.out, e0]
    have b34 : (b == 34) = false := by rw [beq_eq_false_iff_ne]; exact h34
    clear HR hsp hbl hgd hl he
    go_enter Tryz.func59, Tryz.ntmps59
    go_wp2_with fail
    refine bodyPost_ret (v := .tuple #[.string { data := #[] }, .int .i64 p, .int .i64 4]) (by simp [results, Tryz.results59, go_sem]) rfl ⟨rfl, by go_grown⟩
theorem take_le (l : List Int) : (takeP l 0).2.1 ≤ l.length := by
  by_cases h : (takeP l 0).2.2 = 0
  · exact (take_good l h).2.2.1
  · exact (take_bad l h).2.1
end Go.Proofs.YtbkceneakdbdkaaGreatDoor
