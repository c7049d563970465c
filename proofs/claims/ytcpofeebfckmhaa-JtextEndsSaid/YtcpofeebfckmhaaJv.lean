/- The program's mark: the rune of a mark, or of a pair of marks. -/
import Derived.Test.YtcpofeebfckmhaaJu
namespace Go.Proofs.Ytcpofeebfckmhaa
open Go.RowKit
set_option maxRecDepth 20000
set_option linter.unusedVariables false
set_option linter.unusedSimpArgs false
def MarkEnd (l : List Int) (w : World) (e : Ending) (w' : World) : Prop := (∃ (c : Int) (n : Nat) (er : Int), e = .returned (.tuple #[.int .i32 c, .int .i64 n, .int .i64 er]) ∧ MarkOk l c n er) ∧ Below w.heap.size w w'
theorem esc_r {a b : Int} {t : List Int} (h : twoR b ≠ 0) : escP (a :: b :: t) = .piece (encC (twoR b)) 2 := by
  have h2 := two_r b
  rw [if_neg h] at h2
  rw [esc_of, h2, (two_val h2).1]
theorem esc_n {a b : Int} {t : List Int} (h : twoR b = 0) : escP (a :: b :: t) = if (fourP (a :: b :: t)).2 ≠ 0 then badE (fourP (a :: b :: t)).2 else if (fourP (a :: b :: t)).1 < 55296 ∨ 57343 < (fourP (a :: b :: t)).1 then .piece (encC (fourP (a :: b :: t)).1) 6 else if 56319 < (fourP (a :: b :: t)).1 then .form else
      if (fourP ((a :: b :: t).drop 6)).2 ≠ 0 then badE (fourP ((a :: b :: t).drop 6)).2 else if (fourP ((a :: b :: t).drop 6)).1 < 56320 ∨ 57343 < (fourP ((a :: b :: t).drop 6)).1 then .form
      else .piece (encC (65536 + 1024 * ((fourP (a :: b :: t)).1 - 55296) + (fourP ((a :: b :: t).drop 6)).1 - 56320)) 12 := by
  have h2 := two_r b
  rw [if_pos h] at h2
  rw [esc_of, h2]
theorem mark_err {b : Int} {t : List Int} {c : Int} {n : Nat} {e : Int} (h : escP (92 :: b :: t) = badE e) (he : e = 3 ∨ e = 4) : MarkOk (92 :: b :: t) c n e := by
  rcases he with rfl | rfl
  · exact Or.inl ⟨rfl, h⟩
  · exact Or.inr (Or.inl ⟨rfl, h⟩)
theorem bI_two (s : ByteArray) (h : 1 < s.size) : ∃ a t, bI s = a :: ((s[1]'h).toNat : Int) :: t := by
  have h1 := bI_get s 1 h
  cases hb : bI s with
  | nil => rw [hb] at h1; cases h1
  | cons a u =>
    cases u with
    | nil => rw [hb] at h1; cases h1
    | cons b t =>
      rw [hb] at h1
      have : b = ((s[1]'h).toNat : Int) := by simpa using h1
      exact ⟨a, t, by rw [this]⟩
set_option maxHeartbeats 2000000 in
theorem mark_one (s : ByteArray) (w : World) (hs : s.size = 1) (hh : (bI s).headD 0 = 92) : Calls Try.prog 28 #[.string s] w (MarkEnd (bI s) w) := by
  have h1 : (s.size : Int) = 1 := by omega
  have hl : bI s = [92] := by
    have := bI_len s
    cases hb : bI s with
    | nil => rw [hb, hs] at this; cases this
    | cons a u =>
      rw [hb] at hh this
      rw [hs] at this
      have hu : u = [] := List.eq_nil_of_length_eq_zero (by simpa using this)
      rw [hu]; rw [List.headD_cons] at hh; rw [hh]
  rw [hl]
  have HM : Hid (MarkOk [92] 0 0 3) := Lib.hid (Or.inl ⟨rfl, rfl⟩)
  clear hs hh hl
  unfold MarkEnd
  go_enter Try.func28, Try.ntmps28
  go_wp2_with fail
  refine bodyPost_ret (v := .tuple #[.int .i32 0, .int .i64 0, .int .i64 3]) (by simp [results, Try.results28, go_sem]) rfl ⟨⟨0, 0, 3, rfl, HM.out⟩, by go_grown⟩
set_option maxHeartbeats 4000000 in
theorem mark_more (s : ByteArray) (w : World) (hs : 1 < s.size) (hs2 : s.size ≤ 100000) (hh : (bI s).headD 0 = 92) : Calls Try.prog 28 #[.string s] w (MarkEnd (bI s) w) := by
  have h1 : ¬ (s.size : Int) = 1 := by omega
  have hb2 : (1 : Int) < (s.size : Int) := by omega
  obtain ⟨a, t, hl⟩ := bI_two s hs
  rw [hl, List.headD_cons] at hh
  subst hh
  have hbl := (s[1]'hs).toNat_lt
  have HU := Lib.hid (fun W => unit_any s W hs2)
  have HU2 := Lib.hid (fun W (h6 : 6 ≤ s.size) => unit_any (s.extract 6 s.size) W (by rw [ByteArray.size_extract]; omega))
  have hd6 : 6 ≤ s.size → bI (s.extract 6 s.size) = ((92 : Int) :: ((s[1]'hs).toNat : Int) :: t).drop 6 := fun h6 => by rw [bI_from s 6 h6, hl]
  have hlen : ((92 : Int) :: ((s[1]'hs).toNat : Int) :: t).length = s.size := by rw [← hl, bI_len]
  unfold unitV at HU HU2
  rw [hl] at HU ⊢
  unfold MarkEnd
  obtain ⟨b, hbv⟩ : ∃ b : Int, ((s[1]'hs).toNat : Int) = b := ⟨_, rfl⟩
  have hw : IntKind.i32.wrap b = b := by rw [IntKind.wrap_i32]; omega
  have HT := Lib.hid (fun W => two_any b W)
  rw [hbv] at HU hd6 hlen ⊢
  clear hbl hl
  by_cases hr : twoR b = 0
  · rw [hr] at HT
    have HE := Lib.hid (esc_n (a := 92) (t := t) hr)
    have hfe := four_err 6 0 0 (92 :: b :: t)
    have hfl := four_lt (92 :: b :: t)
    have hfn := four_len (l := 92 :: b :: t)
    by_cases he : (fourP (92 :: b :: t)).2 = 0
    · have hlt := hfl he
      have h6 := hfn he
      have h6s : 6 ≤ s.size := by rw [← hlen]; exact h6
      have he2 : (fourP (92 :: b :: t)) = ((fourP (92 :: b :: t)).1, 0) := by rw [← he]
      generalize hr1 : (fourP (92 :: b :: t)).1 = r at *
      rw [he2] at HU HE
      simp only [ne_eq, not_true_eq_false, if_false] at HE
      by_cases hr2 : r < 55296 ∨ 57343 < r
      · have HM : Hid (MarkOk (92 :: b :: t) r 6 0) := Lib.hid (mark_of (by rw [HE.out, if_pos hr2]))
        clear hr HE hfe hfl hfn HU2 hd6 he2 he hr1 h6 h6s hlt
        by_cases hr3 : r < 55296
        · clear hr2
          go_enter Try.func28, Try.ntmps28
          go_wp2_with fail
          refine (HT.out _).mono ?_
          rintro e w2 ⟨rfl, hb2⟩
          go_wp2_with fail
          refine (HU.out _).mono ?_
          rintro e w3 ⟨rfl, hb3⟩
          have HB3 := Lib.hid (hb2.trans (hb3.mono hb2.size))
          clear hb2 hb3
          go_wp2_with fail
          refine bodyPost_ret (v := .tuple #[.int .i32 (r), .int .i64 (6), .int .i64 (0)]) (by simp [results, Try.results28, go_sem]) rfl ⟨⟨r, 6, 0, rfl, HM.out⟩, HB3.out⟩
        · have hr4 : (57344 : Int) ≤ r := by omega
          clear hr2
          go_enter Try.func28, Try.ntmps28
          go_wp2_with fail
          refine (HT.out _).mono ?_
          rintro e w2 ⟨rfl, hb2⟩
          go_wp2_with fail
          refine (HU.out _).mono ?_
          rintro e w3 ⟨rfl, hb3⟩
          have HB3 := Lib.hid (hb2.trans (hb3.mono hb2.size))
          clear hb2 hb3
          go_wp2_with fail
          refine bodyPost_ret (v := .tuple #[.int .i32 (r), .int .i64 (6), .int .i64 (0)]) (by simp [results, Try.results28, go_sem]) rfl ⟨⟨r, 6, 0, rfl, HM.out⟩, HB3.out⟩
      rw [if_neg hr2] at HE
      have q1 : ¬ r < 55296 := fun h => hr2 (Or.inl h)
      have q2 : ¬ (57344 : Int) ≤ r := fun h => hr2 (Or.inr (by omega))
      clear hr2
      by_cases hr3 : 56319 < r
      · have HM : Hid (MarkOk (92 :: b :: t) 0 0 4) := Lib.hid (Or.inr (Or.inl ⟨rfl, by rw [HE.out, if_pos hr3]⟩))
        have q3 : (56320 : Int) ≤ r := by omega
        clear hr HE hfe hfl hfn HU2 hd6 he2 he hr1 h6 h6s hlt hr3
        go_enter Try.func28, Try.ntmps28
        go_wp2_with fail
        refine (HT.out _).mono ?_
        rintro e w2 ⟨rfl, hb2⟩
        go_wp2_with fail
        refine (HU.out _).mono ?_
        rintro e w3 ⟨rfl, hb3⟩
        have HB3 := Lib.hid (hb2.trans (hb3.mono hb2.size))
        clear hb2 hb3
        go_wp2_with fail
        refine bodyPost_ret (v := .tuple #[.int .i32 (0), .int .i64 (0), .int .i64 (4)]) (by simp [results, Try.results28, go_sem]) rfl ⟨⟨0, 0, 4, rfl, HM.out⟩, HB3.out⟩
      rw [if_neg hr3] at HE
      have q3 : ¬ (56320 : Int) ≤ r := by omega
      have hd := hd6 h6s
      have HU3 := Lib.hid (fun W => HU2.out W h6s)
      rw [hd] at HU3
      have hfe3 := four_err 6 0 0 ((92 :: b :: t).drop 6)
      have hfl3 := four_lt ((92 :: b :: t).drop 6)
      have hs6 : (6 : Int) ≤ (s.size : Int) := by omega
      by_cases hg : (fourP ((92 :: b :: t).drop 6)).2 = 0
      · have hlt3 := hfl3 hg
        have hg2 : (fourP ((92 :: b :: t).drop 6)) = ((fourP ((92 :: b :: t).drop 6)).1, 0) := by rw [← hg]
        generalize hr4 : (fourP ((92 :: b :: t).drop 6)).1 = g at *
        rw [hg2] at HU3 HE
        simp only [ne_eq, not_true_eq_false, if_false] at HE
        by_cases hr5 : g < 56320 ∨ 57343 < g
        · have HM : Hid (MarkOk (92 :: b :: t) 0 0 4) := Lib.hid (Or.inr (Or.inl ⟨rfl, by rw [HE.out, if_pos hr5]⟩))
          clear hr HE hfe hfl hfn HU2 hd6 he2 he hr1 h6 h6s hlt hr3 hd hfe3 hfl3 hg hg2 hr4 hlt3
          by_cases hr6 : g < 56320
          · clear hr5
            go_enter Try.func28, Try.ntmps28
            go_wp2_with fail
            refine (HT.out _).mono ?_
            rintro e w2 ⟨rfl, hb2⟩
            go_wp2_with fail
            refine (HU.out _).mono ?_
            rintro e w3 ⟨rfl, hb3⟩
            have HB3 := Lib.hid (hb2.trans (hb3.mono hb2.size))
            clear hb2 hb3
            go_wp2_with fail
            refine (HU3.out _).mono ?_
            rintro e w4 ⟨rfl, hb4⟩
            have HB4 := Lib.hid (HB3.out.trans (hb4.mono HB3.out.size))
            clear hb4
            clear HB3
            have HB3 := HB4
            clear HB4
            go_wp2_with fail
            refine bodyPost_ret (v := .tuple #[.int .i32 (0), .int .i64 (0), .int .i64 (4)]) (by simp [results, Try.results28, go_sem]) rfl ⟨⟨0, 0, 4, rfl, HM.out⟩, HB3.out⟩
          · have hr7 : (57344 : Int) ≤ g := by omega
            clear hr5
            go_enter Try.func28, Try.ntmps28
            go_wp2_with fail
            refine (HT.out _).mono ?_
            rintro e w2 ⟨rfl, hb2⟩
            go_wp2_with fail
            refine (HU.out _).mono ?_
            rintro e w3 ⟨rfl, hb3⟩
            have HB3 := Lib.hid (hb2.trans (hb3.mono hb2.size))
            clear hb2 hb3
            go_wp2_with fail
            refine (HU3.out _).mono ?_
            rintro e w4 ⟨rfl, hb4⟩
            have HB4 := Lib.hid (HB3.out.trans (hb4.mono HB3.out.size))
            clear hb4
            clear HB3
            have HB3 := HB4
            clear HB4
            go_wp2_with fail
            refine bodyPost_ret (v := .tuple #[.int .i32 (0), .int .i64 (0), .int .i64 (4)]) (by simp [results, Try.results28, go_sem]) rfl ⟨⟨0, 0, 4, rfl, HM.out⟩, HB3.out⟩
        · rw [if_neg hr5] at HE
          have q5 : ¬ g < 56320 := fun h => hr5 (Or.inl h)
          have q6 : ¬ (57344 : Int) ≤ g := fun h => hr5 (Or.inr (by omega))
          have v1 : IntKind.i32.wrap (r - 55296) = r - 55296 := by rw [IntKind.wrap_i32]; omega
          have v2 : IntKind.i32.wrap ((r - 55296) * 1024) = (r - 55296) * 1024 := by rw [IntKind.wrap_i32]; omega
          have v3 : IntKind.i32.wrap (65536 + (r - 55296) * 1024) = 65536 + (r - 55296) * 1024 := by rw [IntKind.wrap_i32]; omega
          have v4 : IntKind.i32.wrap (g - 56320) = g - 56320 := by rw [IntKind.wrap_i32]; omega
          have v5 : IntKind.i32.wrap (65536 + (r - 55296) * 1024 + (g - 56320)) = 65536 + (r - 55296) * 1024 + (g - 56320) := by rw [IntKind.wrap_i32]; omega
          have HM : Hid (MarkOk (92 :: b :: t) (65536 + (r - 55296) * 1024 + (g - 56320)) 12 0) := Lib.hid (mark_of (by rw [HE.out, show 65536 + 1024 * (r - 55296) + g - 56320 = 65536 + (r - 55296) * 1024 + (g - 56320) by omega]))
          clear hr HE hfe hfl hfn HU2 hd6 he2 he hr1 h6 h6s hlt hr3 hd hfe3 hfl3 hg hg2 hr4 hlt3 hr5
          go_enter Try.func28, Try.ntmps28
          go_wp2_with fail
          refine (HT.out _).mono ?_
          rintro e w2 ⟨rfl, hb2⟩
          go_wp2_with fail
          refine (HU.out _).mono ?_
          rintro e w3 ⟨rfl, hb3⟩
          have HB3 := Lib.hid (hb2.trans (hb3.mono hb2.size))
          clear hb2 hb3
          go_wp2_with fail
          refine (HU3.out _).mono ?_
          rintro e w4 ⟨rfl, hb4⟩
          have HB4 := Lib.hid (HB3.out.trans (hb4.mono HB3.out.size))
          clear hb4
          clear HB3
          have HB3 := HB4
          clear HB4
          go_wp2_with fail
          refine bodyPost_ret (v := .tuple #[.int .i32 (65536 + (r - 55296) * 1024 + (g - 56320)), .int .i64 (12), .int .i64 (0)]) (by simp [results, Try.results28, go_sem]) rfl ⟨⟨65536 + (r - 55296) * 1024 + (g - 56320), 12, 0, rfl, HM.out⟩, HB3.out⟩
      · have HM : Hid (MarkOk (92 :: b :: t) 0 0 (fourP ((92 :: b :: t).drop 6)).2) := Lib.hid (mark_err (by rw [HE.out, if_pos hg]) (hfe3.resolve_left hg))
        generalize fourP ((92 :: b :: t).drop 6) = G at *
        clear hr HE hfe hfl hfn HU2 hd6 he2 he hr1 h6 h6s hlt hr3 hd hfe3 hfl3
        go_enter Try.func28, Try.ntmps28
        go_wp2_with fail
        refine (HT.out _).mono ?_
        rintro e w2 ⟨rfl, hb2⟩
        go_wp2_with fail
        refine (HU.out _).mono ?_
        rintro e w3 ⟨rfl, hb3⟩
        have HB3 := Lib.hid (hb2.trans (hb3.mono hb2.size))
        clear hb2 hb3
        go_wp2_with fail
        refine (HU3.out _).mono ?_
        rintro e w4 ⟨rfl, hb4⟩
        have HB4 := Lib.hid (HB3.out.trans (hb4.mono HB3.out.size))
        clear hb4
        clear HB3
        have HB3 := HB4
        clear HB4
        go_wp2_with fail
        refine bodyPost_ret (v := .tuple #[.int .i32 (0), .int .i64 (0), .int .i64 (G.2)]) (by simp [results, Try.results28, go_sem]) rfl ⟨⟨0, 0, G.2, rfl, HM.out⟩, HB3.out⟩
    · have HM : Hid (MarkOk (92 :: b :: t) 0 0 (fourP (92 :: b :: t)).2) := Lib.hid (mark_err (by rw [HE.out, if_pos he]) (hfe.resolve_left he))
      generalize fourP (92 :: b :: t) = F at *
      clear hr HE hfe hfl hfn HU2 hd6
      go_enter Try.func28, Try.ntmps28
      go_wp2_with fail
      refine (HT.out _).mono ?_
      rintro e w2 ⟨rfl, hb2⟩
      go_wp2_with fail
      refine (HU.out _).mono ?_
      rintro e w3 ⟨rfl, hb3⟩
      have HB3 := Lib.hid (hb2.trans (hb3.mono hb2.size))
      clear hb2 hb3
      go_wp2_with fail
      refine bodyPost_ret (v := .tuple #[.int .i32 (0), .int .i64 (0), .int .i64 (F.2)]) (by simp [results, Try.results28, go_sem]) rfl ⟨⟨0, 0, F.2, rfl, HM.out⟩, HB3.out⟩
  · have HM : Hid (MarkOk (92 :: b :: t) (twoR b) 2 0) := Lib.hid (mark_of (esc_r hr))
    generalize twoR b = x at *
    clear HU HU2 hd6
    go_enter Try.func28, Try.ntmps28
    go_wp2_with fail
    refine (HT.out _).mono ?_
    rintro e w2 ⟨rfl, hb2⟩
    go_wp2_with fail
    refine bodyPost_ret (v := .tuple #[.int .i32 x, .int .i64 2, .int .i64 0]) (by simp [results, Try.results28, go_sem]) rfl ⟨⟨x, 2, 0, rfl, HM.out⟩, hb2⟩
theorem mark_any (s : ByteArray) (w : World) (hs : 0 < s.size) (hs2 : s.size ≤ 100000) (hh : (bI s).headD 0 = 92) : Calls Try.prog 28 #[.string s] w (MarkEnd (bI s) w) := by
  by_cases h : s.size = 1
  · exact mark_one s w h hh
  · exact mark_more s w (by omega) hs2 hh
end Go.Proofs.Ytcpofeebfckmhaa
