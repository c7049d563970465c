/- NotesBack: its walk. -/
import Derived.Test.YtbkceneakdbdkaaGreatDoorMX
namespace Go.Proofs.YtbkceneakdbdkaaGreatDoor
open Go.RowKit
set_option maxRecDepth 20000
set_option linter.unusedVariables false
set_option linter.unusedSimpArgs false
set_option maxHeartbeats 8000000
theorem len_light3 {v : Nt} (h : 0 ≤ wgV 200 v) (hc : chkV 1 (toJ v) = 0) : (printV (toJ v)).length ≤ 800000 := by
  have := len_V 1 200 v h hc
  omega
/-- What may be laid and is short comes back. -/
theorem putV_ok {v : Js} (h : (putV v).2 = 0) : chkV 1 v = 0 ∧ (putV v).1 = printV v ∧ (printV v).length ≤ 4096 := by
  rw [put_of] at h ⊢
  by_cases h1 : chkV 1 v ≠ 0
  · rw [if_pos h1] at h; exact absurd h h1
  rw [if_neg h1] at h ⊢
  by_cases h2 : 4096 < (printV v).length
  · rw [if_pos h2] at h; cases h
  rw [if_neg h2]
  exact ⟨Decidable.not_not.1 h1, rfl, by omega⟩
theorem putV_may {v : Js} (h : chkV 1 v = 0) : (putV v).2 = 0 ∨ (putV v).2 = 5 := by
  rw [put_of, if_neg (by rw [h]; simp)]
  split
  · exact .inr rfl
  · exact .inl rfl
theorem takeV_bad {s : List Int} (h : (takeV s).2.2 ≠ 0) : (takeV s).1 = .nul := by
  by_cases hl : 4096 < s.length
  · rw [takeV_long s hl]
  rw [takeV_is s hl] at h ⊢
  split
  · rfl
  · split
    · rfl
    · rename_i h1 h2
      rw [if_neg h1, if_neg h2] at h
      exact absurd rfl h
theorem notesback_law (v1 : Nt) (z : ByteArray) (w : World) (i1 : v1.In w) (hz : z.size ≤ maxLen) (hq : QTab w) : Calls Tryz.prog 4 #[ntA v1, .string z] w fun e w' => e = .returned (.bool true) ∧ Below w.heap.size w w' := by
  obtain ⟨k, n, s, nv, names, kv, kids⟩ := v1
  have HA := Lib.hid (fun (W : World) (hb : Below w.heap.size w W) => awake_any W (hq.below hb))
  have HL1 := Lib.hid (fun (W : World) (hb : Below w.heap.size w W) => light_any (.mk k n s nv names kv kids) 200 W (i1.below hb) (by omega) (by omega))
  have HI1 := Lib.hid i1
  have HQ := Lib.hid hq
  have HX : Hid (∀ T, BoxAt (w.alloc (.cells #[.int .u8 k, .int .i64 n, .string s, nv, kv] T)) w.heap.size k n s nv kv) := Lib.hid (fun T => BoxAt.made w k n s nv kv T)
  have HAL : Hid (∀ T, Below w.heap.size w (w.alloc (.cells #[.int .u8 k, .int .i64 n, .string s, nv, kv] T))) := Lib.hid (fun T => (Below.refl _ _).alloc (Nat.le_refl _) _)
  have hzi : (z.size : Int) ≤ 9223372036854775807 := by rw [maxL] at hz; omega
  clear hq i1 hz
  show Calls _ _ #[.agg #[.int .u8 k, .int .i64 n, .string s, nv, kv], .string z] _ _
  by_cases h1 : ¬ 0 ≤ wgV 200 (.mk k n s nv names kv kids)
  · rw [decide_eq_false h1] at HL1
    clear h1
    go_enter Tryz.func4, Tryz.ntmps4
    go_wp2_with fail
    refine (HL1.out _ (HAL.out _)).mono ?_
    rintro e w1 ⟨rfl, hb1⟩
    have HB1 := Lib.hid ((HAL.out 25).trans (hb1.mono (HAL.out 25).size))
    clear hb1
    go_wp2_with fail
    refine (HA.out _ HB1.out).mono ?_
    rintro e w2 ⟨rfl, hb2⟩
    have HB2 := Lib.hid (HB1.out.trans (hb2.mono HB1.out.size))
    clear hb2
    go_wp2_with fail
    go_ret
    exact ⟨rfl, HB2.out⟩
  have h1 := Decidable.not_not.1 h1
  rw [decide_eq_true h1] at HL1
  by_cases hz1 : 1000 < z.size
  · have e1 : decide (1000 < (z.size : Int)) = true := by simp; omega
    have e2 : (1000 : Int) < (z.size : Int) := by omega
    clear h1
    go_enter Tryz.func4, Tryz.ntmps4
    go_wp2_with fail
    refine (HL1.out _ (HAL.out _)).mono ?_
    rintro e w1 ⟨rfl, hb1⟩
    have HB1 := Lib.hid ((HAL.out 25).trans (hb1.mono (HAL.out 25).size))
    clear hb1
    go_wp2_with fail
    refine (HA.out _ HB1.out).mono ?_
    rintro e w2 ⟨rfl, hb2⟩
    have HB2 := Lib.hid (HB1.out.trans (hb2.mono HB1.out.size))
    clear hb2
    go_wp2_with fail
    go_ret
    exact ⟨rfl, HB2.out⟩
  have e1 : decide (1000 < (z.size : Int)) = false := by simp; omega
  have e2 : ¬ (1000 : Int) < (z.size : Int) := by omega
  have f1 := fit_of 200 (.mk k n s nv names kv kids) h1
  have HO1 := Lib.hid (fun (W : World) (hb : Below w.heap.size w W) => own_any (.mk k n s nv names kv kids) W (HI1.out.below hb) f1)
  have HPU := Lib.hid (fun (W : World) (x : Value) (hb : Below w.heap.size w W) (hx : AnyAt aB W (toJ (.mk k n s nv names kv kids)) x) => pput_any aB (toJ (.mk k n s nv names kv kids)) x W hx (HQ.out.below hb) (len_light3 h1))
  have HEQ := Lib.hid (fun (W : World) (x : Value) (hb : Below w.heap.size w W) (hx : AnyAt aB W (toJ (.mk k n s nv names kv kids)) x) => eq_any (toJ (.mk k n s nv names kv kids)) aB (.mk k n s nv names kv kids) W x hx (bare_toJ _) (HI1.out.below hb) f1)
  have HTK := Lib.hid (fun (W : World) (t : ByteArray) (hb : Below w.heap.size w W) (ht : t.size ≤ 1000000) => ptake_any t W (HQ.out.below hb) ht)
  have HBR := Lib.hid (bare_toJ (.mk k n s nv names kv kids))
  unfold OwnEnd at HO1
  unfold EqEnd at HEQ
  unfold TakeV at HTK
  generalize toJ (.mk k n s nv names kv kids) = J1 at HO1 HPU HEQ HBR
  clear f1 h1
  go_enter Tryz.func4, Tryz.ntmps4
  go_wp2_with fail
  refine (HL1.out _ (HAL.out _)).mono ?_
  rintro e w1 ⟨rfl, hb1⟩
  have HB1 := Lib.hid ((HAL.out 25).trans (hb1.mono (HAL.out 25).size))
  have HX1 := Lib.hid ((HX.out 25).later hb1)
  clear hb1
  obtain ⟨b0, b1, b2, b3, b4⟩ := HX1.out
  go_wp2_with fail
  refine (HO1.out _ HB1.out).mono ?_
  rintro e w3 ⟨⟨x, rfl, hx⟩, hb3⟩
  have HB3 := Lib.hid (HB1.out.trans (hb3.mono HB1.out.size))
  have HX3 := Lib.hid (HX1.out.later hb3)
  have HV3 := Lib.hid (hx.mono (S' := aB) (fun _ _ => trivial))
  clear hb3 hx b0 b1 b2 b3 b4
  go_wp2_with fail
  refine (HPU.out _ x HB3.out HV3.out).mono ?_
  rintro e w4 ⟨rfl, hb4⟩
  have HB4 := Lib.hid (HB3.out.trans (hb4.mono HB3.out.size))
  have HX4 := Lib.hid (HX3.out.later hb4)
  clear hb4
  by_cases hp : (putV J1).2 ≠ 0
  · have hpd : ((putV J1).2 == 0) = false := by rw [beq_eq_false_iff_ne]; exact hp
    clear hp
    have HT9 := Lib.hid (fun W hb => HTK.out W z hb (by omega))
    have hzl := bI_len z
    by_cases he : (takeV (bI z)).2.2 ≠ 0
    · have hnul : (takeV (bI z)).1 = .nul := takeV_bad he
      have hed : ((takeV (bI z)).2.2 != 0) = true := by simpa using he
      rw [hnul] at HT9
      simp only [AnyAt] at HT9
      generalize takeV (bI z) = V at HT9 hed
      clear he hnul hzl
      go_wp2_with fail
      refine (HT9.out _ HB4.out).mono ?_
      rintro e u1 ⟨⟨y9, rfl, rfl⟩, hc1⟩
      have HC1 := Lib.hid (HB4.out.trans (hc1.mono HB4.out.size))
      clear hc1
      go_wp2_with fail
      refine (HA.out _ HC1.out).mono ?_
      rintro e u2 ⟨rfl, hc2⟩
      have HC2 := Lib.hid (HC1.out.trans (hc2.mono HC1.out.size))
      clear hc2
      go_wp2_with fail
      go_ret
      exact ⟨rfl, HC2.out⟩
    have he := Decidable.not_not.1 he
    have hmz := takeV_may (bI z) he
    have hed : ((takeV (bI z)).2.2 != 0) = false := by rw [he]; rfl
    have hpl := takeV_len (bI z) (by omega) he
    have HMZ := Lib.hid hmz
    have HPZ := Lib.hid (fun (W : World) (x : Value) (hb : Below w.heap.size w W) (hx : AnyAt aB W (takeV (bI z)).1 x) => pput_any aB (takeV (bI z)).1 x W hx (HQ.out.below hb) (fun _ => by omega))
    have hcase := putV_may hmz.1
    generalize takeV (bI z) = V at HT9 hed HPZ hcase HMZ
    clear he hmz hzl hpl
    go_wp2_with fail
    refine (HT9.out _ HB4.out).mono ?_
    rintro e u1 ⟨⟨y9, rfl, hy9⟩, hc1⟩
    have HC1 := Lib.hid (HB4.out.trans (hc1.mono HB4.out.size))
    have HY9 := Lib.hid hy9
    clear hc1 hy9
    go_wp2_with fail
    refine (HPZ.out _ y9 HC1.out HY9.out).mono ?_
    rintro e u2 ⟨rfl, hc2⟩
    have HC2 := Lib.hid (HC1.out.trans (hc2.mono HC1.out.size))
    have HY10 := Lib.hid (HY9.out.below hc2)
    clear hc2
    by_cases h5 : (putV V.1).2 ≠ 0
    · have h55 : (putV V.1).2 = 5 := by rcases hcase with h | h; (exact absurd h h5); exact h
      rw [h55]
      clear h5 hcase
      go_wp2_with fail
      refine (HA.out _ HC2.out).mono ?_
      rintro e u3 ⟨rfl, hc3⟩
      have HC3 := Lib.hid (HC2.out.trans (hc3.mono HC2.out.size))
      clear hc3
      go_wp2_with fail
      go_ret
      exact ⟨rfl, HC3.out⟩
    have h5 := Decidable.not_not.1 h5
    obtain ⟨p1, p2, p3⟩ := putV_ok h5
    have hbs := bI_str (printV V.1) (print_byte V.1 1 p1)
    have htk := takeV_same HMZ.out (by omega)
    rw [p2, h5]
    obtain ⟨ub, hub⟩ : ∃ ub, str (printV V.1) = ub := ⟨_, rfl⟩
    rw [hub] at hbs ⊢
    have hus : ub.size ≤ 4096 := by rw [← bI_len, hbs]; exact p3
    have HT10 := Lib.hid (fun W hb => HTK.out W ub hb (by omega))
    rw [hbs, htk] at HT10
    have HSM9 := Lib.hid (fun (W : World) (x y : Value) (hx : AnyAt aB W V.1 x) (hy : AnyAt aB W V.1 y) => psame_any aB aB V.1 V.1 x y W hx hy HMZ.out.2 HMZ.out.2)
    unfold BoE at HSM9
    have HP1 := Lib.hid p1
    clear p1 p2 p3 hbs htk h5 hcase
    go_wp2_with fail
    refine (HT10.out _ HC2.out).mono ?_
    rintro e u3 ⟨⟨y10, rfl, hy10⟩, hc3⟩
    have HC3 := Lib.hid (HC2.out.trans (hc3.mono HC2.out.size))
    have HY11 := Lib.hid (HY10.out.below hc3)
    have HZ11 := Lib.hid hy10
    clear hc3 hy10
    go_wp2_with fail
    refine (HSM9.out _ y9 y10 HY11.out HZ11.out).mono ?_
    rintro e u4 ⟨⟨r, rfl, hr⟩, hc4⟩
    have hrt : r = true := hr.2 ⟨HP1.out, trivial⟩
    subst hrt
    have HC4 := Lib.hid (HC3.out.trans (hc4.mono HC3.out.size))
    clear hr hc4
    go_wp2_with fail
    refine (HA.out _ HC4.out).mono ?_
    rintro e u5 ⟨rfl, hc5⟩
    have HC5 := Lib.hid (HC4.out.trans (hc5.mono HC4.out.size))
    clear hc5
    go_wp2_with fail
    go_ret
    exact ⟨rfl, HC5.out⟩
  have hp := Decidable.not_not.1 hp
  have hpd : ((putV J1).2 == 0) = true := by simpa using hp
  obtain ⟨p1, p2, p3⟩ := putV_ok hp
  have hmay : MayV 1 J1 := ⟨p1, HBR.out⟩
  have hbs := bI_str (printV J1) (print_byte J1 1 p1)
  have htk := takeV_same hmay (by omega)
  rw [p2, hp]
  obtain ⟨tb, htb⟩ : ∃ tb, str (printV J1) = tb := ⟨_, rfl⟩
  rw [htb] at hbs ⊢
  have hts : tb.size ≤ 4096 := by rw [← bI_len, hbs]; exact p3
  have HTB := Lib.hid hbs
  have HT1 := Lib.hid (fun W hb => HTK.out W tb hb (by omega))
  have hlt : (printV J1).length = tb.size := by rw [← hbs, bI_len]
  rw [hbs, htk, hlt] at HT1
  have HMY := Lib.hid hmay
  clear p1 p2 p3 hmay htk hbs hp hpd
  go_wp2_with fail
  refine (HT1.out _ HB4.out).mono ?_
  rintro e w5 ⟨⟨y, rfl, hy⟩, hb5⟩
  have HB5 := Lib.hid (HB4.out.trans (hb5.mono HB4.out.size))
  have HX5 := Lib.hid (HX4.out.later hb5)
  have HY5 := Lib.hid hy
  clear hb5 hy
  obtain ⟨b0, b1, b2, b3, b4⟩ := HX5.out
  go_wp2_with fail
  refine (HEQ.out _ y HB5.out HY5.out).mono ?_
  rintro e w6 ⟨⟨b, rfl, hb⟩, hb6⟩
  have hbt : b = true := hb.2 trivial
  subst hbt
  have HB6 := Lib.hid (HB5.out.trans (hb6.mono HB5.out.size))
  have HY6 := Lib.hid (HY5.out.below hb6)
  clear hb hb6 b0 b1 b2 b3 b4
  by_cases h3 : tb.size + 3 ≤ 4096
  · have hw : IntKind.i64.wrap ((tb.size : Int) + 3) = ((tb.size + 3 : Nat) : Int) := by rw [IntKind.wrap_i64] <;> omega
    have e3 : ((tb.size : Int) + 3) ≤ 4096 := by omega
    have hcat : ∀ A B : ByteArray, bI (A ++ B) = bI A ++ bI B := bI_append
    have HT2 := Lib.hid (fun W hb => HTK.out W ({ data := #[32, 10] } ++ tb ++ { data := #[9] }) hb (by simp only [ByteArray.size_append]; show 2 + tb.size + 1 ≤ _; omega))
    have hbb : bI ({ data := #[32, 10] } ++ tb ++ { data := #[9] }) = [32, 10] ++ (printV J1 ++ [9]) := by
      rw [hcat, hcat, HTB.out, List.append_assoc]; rfl
    have htk2 := takeV_print HMY.out [32, 10] [9] (by decide) (by decide) (by simp only [List.length_append]; rw [hlt]; simp; omega)
    rw [hbb, htk2] at HT2
    have HSM := Lib.hid (fun (W : World) (x y : Value) (hx : AnyAt aB W J1 x) (hy : AnyAt aB W J1 y) => psame_any aB aB J1 J1 x y W hx hy HBR.out HBR.out)
    unfold BoE at HSM
    clear hbb htk2 hcat
    go_wp2_with fail
    refine (HT2.out _ HB6.out).mono ?_
    rintro e w7 ⟨⟨y2, rfl, hy2⟩, hb7⟩
    have HB7 := Lib.hid (HB6.out.trans (hb7.mono HB6.out.size))
    have HY7 := Lib.hid (HY6.out.below hb7)
    have HZ7 := Lib.hid hy2
    clear hb7 hy2
    go_wp2_with fail
    refine (HSM.out _ y y2 HY7.out HZ7.out).mono ?_
    rintro e w8 ⟨⟨r, rfl, hr⟩, hb8⟩
    have hrt : r = true := hr.2 ⟨HMY.out.1, trivial⟩
    subst hrt
    have HB8 := Lib.hid (HB7.out.trans (hb8.mono HB7.out.size))
    clear hr hb8
    have HT9 := Lib.hid (fun W hb => HTK.out W z hb (by omega))
    have hzl := bI_len z
    by_cases he : (takeV (bI z)).2.2 ≠ 0
    · have hnul : (takeV (bI z)).1 = .nul := takeV_bad he
      have hed : ((takeV (bI z)).2.2 != 0) = true := by simpa using he
      rw [hnul] at HT9
      simp only [AnyAt] at HT9
      generalize takeV (bI z) = V at HT9 hed
      clear he hnul hzl
      go_wp2_with fail
      refine (HT9.out _ HB8.out).mono ?_
      rintro e u1 ⟨⟨y9, rfl, rfl⟩, hc1⟩
      have HC1 := Lib.hid (HB8.out.trans (hc1.mono HB8.out.size))
      clear hc1
      go_wp2_with fail
      refine (HA.out _ HC1.out).mono ?_
      rintro e u2 ⟨rfl, hc2⟩
      have HC2 := Lib.hid (HC1.out.trans (hc2.mono HC1.out.size))
      clear hc2
      go_wp2_with fail
      go_ret
      exact ⟨rfl, HC2.out⟩
    have he := Decidable.not_not.1 he
    have hmz := takeV_may (bI z) he
    have hed : ((takeV (bI z)).2.2 != 0) = false := by rw [he]; rfl
    have hpl := takeV_len (bI z) (by omega) he
    have HMZ := Lib.hid hmz
    have HPZ := Lib.hid (fun (W : World) (x : Value) (hb : Below w.heap.size w W) (hx : AnyAt aB W (takeV (bI z)).1 x) => pput_any aB (takeV (bI z)).1 x W hx (HQ.out.below hb) (fun _ => by omega))
    have hcase := putV_may hmz.1
    generalize takeV (bI z) = V at HT9 hed HPZ hcase HMZ
    clear he hmz hzl hpl
    go_wp2_with fail
    refine (HT9.out _ HB8.out).mono ?_
    rintro e u1 ⟨⟨y9, rfl, hy9⟩, hc1⟩
    have HC1 := Lib.hid (HB8.out.trans (hc1.mono HB8.out.size))
    have HY9 := Lib.hid hy9
    clear hc1 hy9
    go_wp2_with fail
    refine (HPZ.out _ y9 HC1.out HY9.out).mono ?_
    rintro e u2 ⟨rfl, hc2⟩
    have HC2 := Lib.hid (HC1.out.trans (hc2.mono HC1.out.size))
    have HY10 := Lib.hid (HY9.out.below hc2)
    clear hc2
    by_cases h5 : (putV V.1).2 ≠ 0
    · have h55 : (putV V.1).2 = 5 := by rcases hcase with h | h; (exact absurd h h5); exact h
      rw [h55]
      clear h5 hcase
      go_wp2_with fail
      refine (HA.out _ HC2.out).mono ?_
      rintro e u3 ⟨rfl, hc3⟩
      have HC3 := Lib.hid (HC2.out.trans (hc3.mono HC2.out.size))
      clear hc3
      go_wp2_with fail
      go_ret
      exact ⟨rfl, HC3.out⟩
    have h5 := Decidable.not_not.1 h5
    obtain ⟨p1, p2, p3⟩ := putV_ok h5
    have hbs := bI_str (printV V.1) (print_byte V.1 1 p1)
    have htk := takeV_same HMZ.out (by omega)
    rw [p2, h5]
    obtain ⟨ub, hub⟩ : ∃ ub, str (printV V.1) = ub := ⟨_, rfl⟩
    rw [hub] at hbs ⊢
    have hus : ub.size ≤ 4096 := by rw [← bI_len, hbs]; exact p3
    have HT10 := Lib.hid (fun W hb => HTK.out W ub hb (by omega))
    rw [hbs, htk] at HT10
    have HSM9 := Lib.hid (fun (W : World) (x y : Value) (hx : AnyAt aB W V.1 x) (hy : AnyAt aB W V.1 y) => psame_any aB aB V.1 V.1 x y W hx hy HMZ.out.2 HMZ.out.2)
    unfold BoE at HSM9
    have HP1 := Lib.hid p1
    clear p1 p2 p3 hbs htk h5 hcase
    go_wp2_with fail
    refine (HT10.out _ HC2.out).mono ?_
    rintro e u3 ⟨⟨y10, rfl, hy10⟩, hc3⟩
    have HC3 := Lib.hid (HC2.out.trans (hc3.mono HC2.out.size))
    have HY11 := Lib.hid (HY10.out.below hc3)
    have HZ11 := Lib.hid hy10
    clear hc3 hy10
    go_wp2_with fail
    refine (HSM9.out _ y9 y10 HY11.out HZ11.out).mono ?_
    rintro e u4 ⟨⟨r, rfl, hr⟩, hc4⟩
    have hrt : r = true := hr.2 ⟨HP1.out, trivial⟩
    subst hrt
    have HC4 := Lib.hid (HC3.out.trans (hc4.mono HC3.out.size))
    clear hr hc4
    go_wp2_with fail
    refine (HA.out _ HC4.out).mono ?_
    rintro e u5 ⟨rfl, hc5⟩
    have HC5 := Lib.hid (HC4.out.trans (hc5.mono HC4.out.size))
    clear hc5
    go_wp2_with fail
    go_ret
    exact ⟨rfl, HC5.out⟩
  · have e3 : ¬ ((tb.size : Int) + 3) ≤ 4096 := by omega
    have hw : IntKind.i64.wrap ((tb.size : Int) + 3) = ((tb.size + 3 : Nat) : Int) := by rw [IntKind.wrap_i64] <;> omega
    have HT9 := Lib.hid (fun W hb => HTK.out W z hb (by omega))
    have hzl := bI_len z
    by_cases he : (takeV (bI z)).2.2 ≠ 0
    · have hnul : (takeV (bI z)).1 = .nul := takeV_bad he
      have hed : ((takeV (bI z)).2.2 != 0) = true := by simpa using he
      rw [hnul] at HT9
      simp only [AnyAt] at HT9
      generalize takeV (bI z) = V at HT9 hed
      clear he hnul hzl
      go_wp2_with fail
      refine (HT9.out _ HB6.out).mono ?_
      rintro e u1 ⟨⟨y9, rfl, rfl⟩, hc1⟩
      have HC1 := Lib.hid (HB6.out.trans (hc1.mono HB6.out.size))
      clear hc1
      go_wp2_with fail
      refine (HA.out _ HC1.out).mono ?_
      rintro e u2 ⟨rfl, hc2⟩
      have HC2 := Lib.hid (HC1.out.trans (hc2.mono HC1.out.size))
      clear hc2
      go_wp2_with fail
      go_ret
      exact ⟨rfl, HC2.out⟩
    have he := Decidable.not_not.1 he
    have hmz := takeV_may (bI z) he
    have hed : ((takeV (bI z)).2.2 != 0) = false := by rw [he]; rfl
    have hpl := takeV_len (bI z) (by omega) he
    have HMZ := Lib.hid hmz
    have HPZ := Lib.hid (fun (W : World) (x : Value) (hb : Below w.heap.size w W) (hx : AnyAt aB W (takeV (bI z)).1 x) => pput_any aB (takeV (bI z)).1 x W hx (HQ.out.below hb) (fun _ => by omega))
    have hcase := putV_may hmz.1
    generalize takeV (bI z) = V at HT9 hed HPZ hcase HMZ
    clear he hmz hzl hpl
    go_wp2_with fail
    refine (HT9.out _ HB6.out).mono ?_
    rintro e u1 ⟨⟨y9, rfl, hy9⟩, hc1⟩
    have HC1 := Lib.hid (HB6.out.trans (hc1.mono HB6.out.size))
    have HY9 := Lib.hid hy9
    clear hc1 hy9
    go_wp2_with fail
    refine (HPZ.out _ y9 HC1.out HY9.out).mono ?_
    rintro e u2 ⟨rfl, hc2⟩
    have HC2 := Lib.hid (HC1.out.trans (hc2.mono HC1.out.size))
    have HY10 := Lib.hid (HY9.out.below hc2)
    clear hc2
    by_cases h5 : (putV V.1).2 ≠ 0
    · have h55 : (putV V.1).2 = 5 := by rcases hcase with h | h; (exact absurd h h5); exact h
      rw [h55]
      clear h5 hcase
      go_wp2_with fail
      refine (HA.out _ HC2.out).mono ?_
      rintro e u3 ⟨rfl, hc3⟩
      have HC3 := Lib.hid (HC2.out.trans (hc3.mono HC2.out.size))
      clear hc3
      go_wp2_with fail
      go_ret
      exact ⟨rfl, HC3.out⟩
    have h5 := Decidable.not_not.1 h5
    obtain ⟨p1, p2, p3⟩ := putV_ok h5
    have hbs := bI_str (printV V.1) (print_byte V.1 1 p1)
    have htk := takeV_same HMZ.out (by omega)
    rw [p2, h5]
    obtain ⟨ub, hub⟩ : ∃ ub, str (printV V.1) = ub := ⟨_, rfl⟩
    rw [hub] at hbs ⊢
    have hus : ub.size ≤ 4096 := by rw [← bI_len, hbs]; exact p3
    have HT10 := Lib.hid (fun W hb => HTK.out W ub hb (by omega))
    rw [hbs, htk] at HT10
    have HSM9 := Lib.hid (fun (W : World) (x y : Value) (hx : AnyAt aB W V.1 x) (hy : AnyAt aB W V.1 y) => psame_any aB aB V.1 V.1 x y W hx hy HMZ.out.2 HMZ.out.2)
    unfold BoE at HSM9
    have HP1 := Lib.hid p1
    clear p1 p2 p3 hbs htk h5 hcase
    go_wp2_with fail
    refine (HT10.out _ HC2.out).mono ?_
    rintro e u3 ⟨⟨y10, rfl, hy10⟩, hc3⟩
    have HC3 := Lib.hid (HC2.out.trans (hc3.mono HC2.out.size))
    have HY11 := Lib.hid (HY10.out.below hc3)
    have HZ11 := Lib.hid hy10
    clear hc3 hy10
    go_wp2_with fail
    refine (HSM9.out _ y9 y10 HY11.out HZ11.out).mono ?_
    rintro e u4 ⟨⟨r, rfl, hr⟩, hc4⟩
    have hrt : r = true := hr.2 ⟨HP1.out, trivial⟩
    subst hrt
    have HC4 := Lib.hid (HC3.out.trans (hc4.mono HC3.out.size))
    clear hr hc4
    go_wp2_with fail
    refine (HA.out _ HC4.out).mono ?_
    rintro e u5 ⟨rfl, hc5⟩
    have HC5 := Lib.hid (HC4.out.trans (hc5.mono HC4.out.size))
    clear hc5
    go_wp2_with fail
    go_ret
    exact ⟨rfl, HC5.out⟩
end Go.Proofs.YtbkceneakdbdkaaGreatDoor
