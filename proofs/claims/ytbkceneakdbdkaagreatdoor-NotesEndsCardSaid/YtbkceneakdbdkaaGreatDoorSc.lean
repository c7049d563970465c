/- NotesEnds: its walk. -/
import Derived.Test.YtbkceneakdbdkaaGreatDoorMX
import Derived.Test.YtbkceneakdbdkaaGreatDoorRt
import Derived.Test.YtbkceneakdbdkaaGreatDoorSb
namespace Go.Proofs.YtbkceneakdbdkaaGreatDoor
open Go.RowKit Go.Shelf
set_option maxRecDepth 20000
set_option linter.unusedVariables false
set_option linter.unusedSimpArgs false
set_option maxHeartbeats 8000000
theorem repX : Builder.Extra Tryz.prog repL_ren := {
  sizeBuilder := by kernel_rfl,
  liesBuilder := by kernel_rfl,
  t5 := repL.t5,
  a5 := repL.a5,
  z5 := repL.z5,
  v5 := repL.v5,
  infoByte := by kernel_rfl,
  cellsByte := by kernel_rfl,
  sizeByte := by kernel_rfl,
  neB5 := by decide }
theorem rep_sp (n : Nat) (w : World) (hn : n ≤ 100000) : Calls Tryz.prog 21 #[.string { data := #[32] }, .int .i64 (n : Int)] w fun x w' => (∃ r : ByteArray, x = .returned (.string r) ∧ bI r = List.replicate n 32) ∧ Below w.heap.size w w' := by
  refine (Any.strings_Repeat repL repX (ByteArray.mk #[32]) n w (by omega) (by show 1 * n ≤ _; omega)).mono ?_
  rintro e w' ⟨rfl, hb⟩
  refine ⟨⟨_, rfl, ?_⟩, hb⟩
  have h : Lib.repeatL [32] n = List.replicate n 32 := by
    have := Lib.repeatL_replicate (32 : UInt8) 1 n
    rw [Nat.mul_one] at this
    exact this
  show (Lib.repeatL [32] n).toArray.toList.map _ = _
  rw [h]
  simp
theorem putV_no {v : Js} (h : (putV v).2 ≠ 0) : (putV v).1 = [] := by
  rw [put_of] at h ⊢
  by_cases h1 : chkV 1 v ≠ 0
  · rw [if_pos h1]
  rw [if_neg h1] at h ⊢
  by_cases h2 : 4096 < (printV v).length
  · rw [if_pos h2]
  rw [if_neg h2] at h; exact absurd rfl h
theorem box_five (k n : Int) (s : ByteArray) (nv : Value) (names : List ByteArray) (kv : Value) (kids : Nl) (h5 : 5 ≤ k) (hc : chkV 1 (toJ (.mk k n s nv names kv kids)) = 0) : BoxV (toJ (.mk k n s nv names kv kids)) := by
  rcases toJ_cases k n s nv names kv kids (by omega) with ⟨h1, h⟩ | ⟨h1, h⟩ | ⟨h1, h⟩ | ⟨h1, h⟩ | ⟨h1, h⟩ | ⟨h1, h⟩ | ⟨h1, h⟩ | ⟨h1, h⟩ <;> rw [h] at hc ⊢
  · rw [chkV] at hc; cases hc
  · omega
  · omega
  · omega
  · omega
  · omega
  · exact .inl ⟨_, rfl⟩
  · exact .inr ⟨_, rfl⟩
theorem notesends_law (v1 : Nt) (x y : Int) (w : World) (i1 : v1.In w) (x0 : 0 ≤ x) (x1 : x ≤ 65535) (y0 : 0 ≤ y) (y1 : y ≤ 255) (hq : QTab w) : Calls Tryz.prog 5 #[ntA v1, .int .u16 x, .int .u8 y] w fun e w' => e = .returned (.bool true) ∧ Below w.heap.size w w' := by
  obtain ⟨k, n, s, nv, names, kv, kids⟩ := v1
  have HA := Lib.hid (fun (W : World) (hb : Below w.heap.size w W) => awake_any W (hq.below hb))
  have HL1 := Lib.hid (fun (W : World) (hb : Below w.heap.size w W) => light_any (.mk k n s nv names kv kids) 200 W (i1.below hb) (by omega) (by omega))
  have HI1 := Lib.hid i1
  have HQ := Lib.hid hq
  have HX : Hid (∀ T, BoxAt (w.alloc (.cells #[.int .u8 k, .int .i64 n, .string s, nv, kv] T)) w.heap.size k n s nv kv) := Lib.hid (fun T => BoxAt.made w k n s nv kv T)
  have HAL : Hid (∀ T, Below w.heap.size w (w.alloc (.cells #[.int .u8 k, .int .i64 n, .string s, nv, kv] T))) := Lib.hid (fun T => (Below.refl _ _).alloc (Nat.le_refl _) _)
  obtain ⟨c, rfl⟩ := Int.eq_ofNat_of_zero_le x0
  clear hq i1 x0
  show Calls _ _ #[.agg #[.int .u8 k, .int .i64 n, .string s, nv, kv], _, _] _ _
  by_cases h1 : ¬ 0 ≤ wgV 200 (.mk k n s nv names kv kids)
  · rw [decide_eq_false h1] at HL1
    clear h1
    go_enter Tryz.func5, Tryz.ntmps5
    go_wp2_with fail
    refine (HL1.out _ (HAL.out _)).mono ?_
    rintro e w1 ⟨rfl, hb1⟩
    have HB1 := Lib.hid ((HAL.out 25).trans (hb1.mono (HAL.out 25).size))
    clear hb1
    go_wp2_with fail
    refine (HA.out _ HB1.out).mono ?_
    rintro e w2 ⟨rfl, hb2⟩
    have HB2 := Lib.hid (HB1.out.trans (hb2.mono HB1.out.size))
    clear hb2
    go_wp2_with fail
    go_ret
    exact ⟨rfl, HB2.out⟩
  have h1 := Decidable.not_not.1 h1
  rw [decide_eq_true h1] at HL1
  by_cases h5 : k < 5
  · have e5 : decide (k < 5) = true := decide_eq_true h5
    clear h1
    go_enter Tryz.func5, Tryz.ntmps5
    go_wp2_with fail
    refine (HL1.out _ (HAL.out _)).mono ?_
    rintro e w1 ⟨rfl, hb1⟩
    have HB1 := Lib.hid ((HAL.out 25).trans (hb1.mono (HAL.out 25).size))
    have HX1 := Lib.hid ((HX.out 25).later hb1)
    clear hb1
    obtain ⟨b0, b1, b2, b3, b4⟩ := HX1.out
    go_wp2_with fail
    refine (HA.out _ HB1.out).mono ?_
    rintro e w2 ⟨rfl, hb2⟩
    have HB2 := Lib.hid (HB1.out.trans (hb2.mono HB1.out.size))
    clear hb2
    go_wp2_with fail
    go_ret
    exact ⟨rfl, HB2.out⟩
  have e5 : decide (k < 5) = false := decide_eq_false h5
  have f1 := fit_of 200 (.mk k n s nv names kv kids) h1
  have HO1 := Lib.hid (fun (W : World) (hb : Below w.heap.size w W) => own_any (.mk k n s nv names kv kids) W (HI1.out.below hb) f1)
  have HPU := Lib.hid (fun (W : World) (x : Value) (hb : Below w.heap.size w W) (hx : AnyAt aB W (toJ (.mk k n s nv names kv kids)) x) => pput_any aB (toJ (.mk k n s nv names kv kids)) x W hx (HQ.out.below hb) (len_light3 h1))
  have HTK := Lib.hid (fun (W : World) (t : ByteArray) (hb : Below w.heap.size w W) (ht : t.size ≤ 1000000) => ptake_any t W (HQ.out.below hb) ht)
  have HBR := Lib.hid (bare_toJ (.mk k n s nv names kv kids))
  have HBX := Lib.hid (box_five k n s nv names kv kids (by omega))
  unfold OwnEnd at HO1
  unfold TakeV at HTK
  generalize toJ (.mk k n s nv names kv kids) = J1 at HO1 HPU HBR HBX
  clear f1 h1 h5
  go_enter Tryz.func5, Tryz.ntmps5
  go_wp2_with fail
  refine (HL1.out _ (HAL.out _)).mono ?_
  rintro e w1 ⟨rfl, hb1⟩
  have HB1 := Lib.hid ((HAL.out 25).trans (hb1.mono (HAL.out 25).size))
  have HX1 := Lib.hid ((HX.out 25).later hb1)
  clear hb1
  obtain ⟨b0, b1, b2, b3, b4⟩ := HX1.out
  go_wp2_with fail
  refine (HO1.out _ HB1.out).mono ?_
  rintro e w3 ⟨⟨x, rfl, hx⟩, hb3⟩
  have HB3 := Lib.hid (HB1.out.trans (hb3.mono HB1.out.size))
  have HV3 := Lib.hid (hx.mono (S' := aB) (fun _ _ => trivial))
  clear hb3 hx b0 b1 b2 b3 b4 HX1
  go_wp2_with fail
  refine (HPU.out _ x HB3.out HV3.out).mono ?_
  rintro e w4 ⟨rfl, hb4⟩
  have HB4 := Lib.hid (HB3.out.trans (hb4.mono HB3.out.size))
  clear hb4
  by_cases hp : (putV J1).2 ≠ 0
  · have hpd : ((putV J1).2 != 0) = true := by simpa using hp
    have hpe : ((putV J1).2 == 0) = false := by simpa using hp
    rw [putV_no hp, show str [] = { data := #[] } from rfl]
    clear hp
    go_wp2_with fail
    refine (HA.out _ HB4.out).mono ?_
    rintro e u1 ⟨rfl, hc1⟩
    have HC1 := Lib.hid (HB4.out.trans (hc1.mono HB4.out.size))
    clear hc1
    go_wp2_with fail
    go_ret
    exact ⟨rfl, HC1.out⟩
  have hp := Decidable.not_not.1 hp
  obtain ⟨p1, p2, p3⟩ := putV_ok hp
  have hbs := bI_str (printV J1) (print_byte J1 1 p1)
  have hp0 := print_len J1 1 p1
  have hmay : MayV 1 J1 := ⟨p1, HBR.out⟩
  have hbox := HBX.out p1
  rw [p2, hp]
  obtain ⟨tb, htb⟩ : ∃ tb, str (printV J1) = tb := ⟨_, rfl⟩
  rw [htb] at hbs ⊢
  have hlt : (printV J1).length = tb.size := by rw [← hbs, bI_len]
  have hts : tb.size ≤ 4096 := by omega
  have hz0 : ((tb.size : Int) == 0) = false := by rw [beq_eq_false_iff_ne]; omega
  have hze : (tb.toList == []) = false := emp_no (by omega)
  have hzn : ¬ tb.toList = [] := by simpa using hze
  clear p2 hp htb HPU HO1 HI1 HBX
  by_cases h6 : 4096 ≤ tb.size
  · have e6 : decide (4096 ≤ (tb.size : Int)) = true := by simp; omega
    clear h6
    go_wp2_with fail
    refine (HA.out _ HB4.out).mono ?_
    rintro e u1 ⟨rfl, hc1⟩
    have HC1 := Lib.hid (HB4.out.trans (hc1.mono HB4.out.size))
    clear hc1
    go_wp2_with fail
    go_ret
    exact ⟨rfl, HC1.out⟩
  have e6 : decide (4096 ≤ (tb.size : Int)) = false := by simp; omega
  have hlz : tb.size < 4096 := by omega
  obtain ⟨j, hj⟩ : ∃ j, c % tb.size = j := ⟨_, rfl⟩
  have hjl : j < tb.size := by rw [← hj]; exact Nat.mod_lt _ (by omega)
  have hm1 : ((c : Int).tmod (tb.size : Int)) = (j : Int) := by rw [Int.tmod_eq_emod_of_nonneg (by omega), ← hj]; rfl
  have hcut := takeV_cut hmay hbox p3 j (by omega)
  have hbj : bI (tb.extract 0 j) = (printV J1).take j := by rw [bI_extract _ _ _ (by omega), hbs]; rfl
  have HTJ := Lib.hid (fun W hb => HTK.out W (tb.extract 0 j) hb (by rw [ByteArray.size_extract]; omega))
  rw [hbj] at HTJ
  generalize takeV ((printV J1).take j) = V at HTJ hcut
  have HMY := Lib.hid hmay
  have HBO := Lib.hid hbox
  have HBS := Lib.hid hbs
  clear hbj hj p1 p3 hp0 hmay hbox hbs h6
  go_wp2_with fail
  refine (HTJ.out _ HB4.out).mono ?_
  rintro e w5 ⟨⟨y9, rfl, hy⟩, hb5⟩
  have HB5 := Lib.hid (HB4.out.trans (hb5.mono HB4.out.size))
  clear hb5 hy HTJ
  obtain ⟨m, hm⟩ : ∃ m, c % 4096 = m := ⟨_, rfl⟩
  have hml : m < 4096 := by rw [← hm]; exact Nat.mod_lt _ (by omega)
  have hm2 : ((c : Int).tmod 4096) = (m : Int) := by rw [Int.tmod_eq_emod_of_nonneg (by omega), ← hm]; rfl
  have HR1 := Lib.hid (fun W => rep_sp m W (by omega))
  have hw2 : IntKind.i64.wrap (4097 - (tb.size : Int)) = ((4097 - tb.size : Nat) : Int) := by rw [IntKind.wrap_i64] <;> omega
  have HR2 := Lib.hid (fun W => rep_sp (4097 - tb.size) W (by omega))
  have HT1 := Lib.hid (fun (W : World) (r : ByteArray) (hr : bI r = List.replicate m 32) (hb : Below w.heap.size w W) => by
    have h1 : r.size = m := by rw [← bI_len, hr, List.length_replicate]
    have h2 := HTK.out W r hb (by omega)
    rw [hr, takeV_blanks _ (by rw [List.length_replicate]; omega) (by intro b hb; rw [List.eq_of_mem_replicate hb]; rfl), List.length_replicate] at h2
    exact h2)
  have HT2 := Lib.hid (fun (W : World) (r : ByteArray) (hr : bI r = List.replicate (4097 - tb.size) 32) (hb : Below w.heap.size w W) => by
    have h1 : r.size = 4097 - tb.size := by rw [← bI_len, hr, List.length_replicate]
    have h2 := HTK.out W (tb ++ r) hb (by rw [ByteArray.size_append]; omega)
    rw [takeV_long _ (by rw [bI_len, ByteArray.size_append]; omega)] at h2
    exact h2)
  have HT3 := Lib.hid (fun (W : World) (hb : Below w.heap.size w W) (hn : isB y = false) => by
    have h2 := HTK.out W (tb ++ str [y]) hb (by rw [ByteArray.size_append, str_size, List.length_singleton]; omega)
    rw [bI_append, HBS.out, bI_str [y] (by intro b hb; rw [List.mem_singleton.1 hb]; omega), takeV_more HMY.out HBO.out y hn (by omega), hlt] at h2
    exact h2)
  have HBU := Lib.hid (fun (W : World) => run_built W [y] 5 (by simp))
  simp only [List.map_cons, List.map_nil, List.length_cons, List.length_nil, Nat.zero_add] at HBU
  obtain ⟨V1, V2, V3⟩ := V
  simp only [CutE] at hcut
  have hyc : (y = 32 ∨ y = 9 ∨ y = 10 ∨ y = 13) ∨ (isB y = false ∧ y ≠ 32 ∧ y ≠ 9 ∧ y ≠ 10 ∧ y ≠ 13) := by
    by_cases a1 : y = 32
    · exact .inl (.inl a1)
    by_cases a2 : y = 9
    · exact .inl (.inr (.inl a2))
    by_cases a3 : y = 10
    · exact .inl (.inr (.inr (.inl a3)))
    by_cases a4 : y = 13
    · exact .inl (.inr (.inr (.inr a4)))
    exact .inr ⟨by unfold isB; simp [a1, a2, a3, a4], a1, a2, a3, a4⟩
  clear hm HTK HMY HBO HBS hlt
  rcases hcut with ⟨rfl, rfl⟩ | rfl
  · rcases hyc with (rfl | rfl | rfl | rfl) | ⟨hyb, a1, a2, a3, a4⟩
    · clear HT3 HBU y0 y1
      go_wp2_with fail
      refine (HR1.out _).mono ?_
      rintro e u1 ⟨⟨r1, rfl, hr1⟩, hc1⟩
      have HC1 := Lib.hid (HB5.out.trans (hc1.mono HB5.out.size))
      have HN1 := Lib.hid hr1
      clear hc1 hr1
      go_wp2_with fail
      refine (HT1.out _ r1 HN1.out HC1.out).mono ?_
      rintro e u2 ⟨⟨x2, rfl, hx2⟩, hc2⟩
      have HC2 := Lib.hid (HC1.out.trans (hc2.mono HC1.out.size))
      clear hc2 hx2
      go_wp2_with fail
      refine (HR2.out _).mono ?_
      rintro e u3 ⟨⟨r2, rfl, hr2⟩, hc3⟩
      have HC3 := Lib.hid (HC2.out.trans (hc3.mono HC2.out.size))
      have HN2 := Lib.hid hr2
      have hr2s : r2.size = 4097 - tb.size := by rw [← bI_len, hr2, List.length_replicate]
      have hs2 : ¬ 9223372036854775807 < tb.size + r2.size := by omega
      clear hc3 hr2 hr2s
      go_wp2_with fail
      refine (HT2.out _ r2 HN2.out HC3.out).mono ?_
      rintro e u4 ⟨⟨x4, rfl, hx4⟩, hc4⟩
      have HC4 := Lib.hid (HC3.out.trans (hc4.mono HC3.out.size))
      clear hc4 hx4
      go_wp2_with fail
      refine (HA.out _ HC4.out).mono ?_
      rintro e u5 ⟨rfl, hc5⟩
      have HC5 := Lib.hid (HC4.out.trans (hc5.mono HC4.out.size))
      clear hc5
      go_wp2_with fail
      go_ret
      exact ⟨rfl, HC5.out⟩
    · clear HT3 HBU y0 y1
      go_wp2_with fail
      refine (HR1.out _).mono ?_
      rintro e u1 ⟨⟨r1, rfl, hr1⟩, hc1⟩
      have HC1 := Lib.hid (HB5.out.trans (hc1.mono HB5.out.size))
      have HN1 := Lib.hid hr1
      clear hc1 hr1
      go_wp2_with fail
      refine (HT1.out _ r1 HN1.out HC1.out).mono ?_
      rintro e u2 ⟨⟨x2, rfl, hx2⟩, hc2⟩
      have HC2 := Lib.hid (HC1.out.trans (hc2.mono HC1.out.size))
      clear hc2 hx2
      go_wp2_with fail
      refine (HR2.out _).mono ?_
      rintro e u3 ⟨⟨r2, rfl, hr2⟩, hc3⟩
      have HC3 := Lib.hid (HC2.out.trans (hc3.mono HC2.out.size))
      have HN2 := Lib.hid hr2
      have hr2s : r2.size = 4097 - tb.size := by rw [← bI_len, hr2, List.length_replicate]
      have hs2 : ¬ 9223372036854775807 < tb.size + r2.size := by omega
      clear hc3 hr2 hr2s
      go_wp2_with fail
      refine (HT2.out _ r2 HN2.out HC3.out).mono ?_
      rintro e u4 ⟨⟨x4, rfl, hx4⟩, hc4⟩
      have HC4 := Lib.hid (HC3.out.trans (hc4.mono HC3.out.size))
      clear hc4 hx4
      go_wp2_with fail
      refine (HA.out _ HC4.out).mono ?_
      rintro e u5 ⟨rfl, hc5⟩
      have HC5 := Lib.hid (HC4.out.trans (hc5.mono HC4.out.size))
      clear hc5
      go_wp2_with fail
      go_ret
      exact ⟨rfl, HC5.out⟩
    · clear HT3 HBU y0 y1
      go_wp2_with fail
      refine (HR1.out _).mono ?_
      rintro e u1 ⟨⟨r1, rfl, hr1⟩, hc1⟩
      have HC1 := Lib.hid (HB5.out.trans (hc1.mono HB5.out.size))
      have HN1 := Lib.hid hr1
      clear hc1 hr1
      go_wp2_with fail
      refine (HT1.out _ r1 HN1.out HC1.out).mono ?_
      rintro e u2 ⟨⟨x2, rfl, hx2⟩, hc2⟩
      have HC2 := Lib.hid (HC1.out.trans (hc2.mono HC1.out.size))
      clear hc2 hx2
      go_wp2_with fail
      refine (HR2.out _).mono ?_
      rintro e u3 ⟨⟨r2, rfl, hr2⟩, hc3⟩
      have HC3 := Lib.hid (HC2.out.trans (hc3.mono HC2.out.size))
      have HN2 := Lib.hid hr2
      have hr2s : r2.size = 4097 - tb.size := by rw [← bI_len, hr2, List.length_replicate]
      have hs2 : ¬ 9223372036854775807 < tb.size + r2.size := by omega
      clear hc3 hr2 hr2s
      go_wp2_with fail
      refine (HT2.out _ r2 HN2.out HC3.out).mono ?_
      rintro e u4 ⟨⟨x4, rfl, hx4⟩, hc4⟩
      have HC4 := Lib.hid (HC3.out.trans (hc4.mono HC3.out.size))
      clear hc4 hx4
      go_wp2_with fail
      refine (HA.out _ HC4.out).mono ?_
      rintro e u5 ⟨rfl, hc5⟩
      have HC5 := Lib.hid (HC4.out.trans (hc5.mono HC4.out.size))
      clear hc5
      go_wp2_with fail
      go_ret
      exact ⟨rfl, HC5.out⟩
    · clear HT3 HBU y0 y1
      go_wp2_with fail
      refine (HR1.out _).mono ?_
      rintro e u1 ⟨⟨r1, rfl, hr1⟩, hc1⟩
      have HC1 := Lib.hid (HB5.out.trans (hc1.mono HB5.out.size))
      have HN1 := Lib.hid hr1
      clear hc1 hr1
      go_wp2_with fail
      refine (HT1.out _ r1 HN1.out HC1.out).mono ?_
      rintro e u2 ⟨⟨x2, rfl, hx2⟩, hc2⟩
      have HC2 := Lib.hid (HC1.out.trans (hc2.mono HC1.out.size))
      clear hc2 hx2
      go_wp2_with fail
      refine (HR2.out _).mono ?_
      rintro e u3 ⟨⟨r2, rfl, hr2⟩, hc3⟩
      have HC3 := Lib.hid (HC2.out.trans (hc3.mono HC2.out.size))
      have HN2 := Lib.hid hr2
      have hr2s : r2.size = 4097 - tb.size := by rw [← bI_len, hr2, List.length_replicate]
      have hs2 : ¬ 9223372036854775807 < tb.size + r2.size := by omega
      clear hc3 hr2 hr2s
      go_wp2_with fail
      refine (HT2.out _ r2 HN2.out HC3.out).mono ?_
      rintro e u4 ⟨⟨x4, rfl, hx4⟩, hc4⟩
      have HC4 := Lib.hid (HC3.out.trans (hc4.mono HC3.out.size))
      clear hc4 hx4
      go_wp2_with fail
      refine (HA.out _ HC4.out).mono ?_
      rintro e u5 ⟨rfl, hc5⟩
      have HC5 := Lib.hid (HC4.out.trans (hc5.mono HC4.out.size))
      clear hc5
      go_wp2_with fail
      go_ret
      exact ⟨rfl, HC5.out⟩
    · have n1 : (y != 32) = true := by simpa using a1
      have n2 : (y != 9) = true := by simpa using a2
      have n3 : (y != 10) = true := by simpa using a3
      have n4 : (y != 13) = true := by simpa using a4
      have HAY := Lib.hid (fun (W : World) (T : TypeId) (h : Below w.heap.size w W) => h.alloc h.size (.cells #[.int .u8 y] T))
      have hru := HBU.out w5
      have hs1 : ¬ 9223372036854775807 < tb.size + (str [y]).size := by rw [str_size, List.length_singleton]; omega
      clear a1 a2 a3 a4
      go_wp2_with fail
      refine (HT3.out _ (HAY.out _ _ HB5.out) hyb).mono ?_
      rintro e w6 ⟨⟨x6, rfl, hx6⟩, hb6⟩
      have HB6 := Lib.hid ((HAY.out _ _ HB5.out).trans (hb6.mono (HAY.out _ 5 HB5.out).size))
      clear hb6 hx6
      go_wp2_with fail
      refine (HR1.out _).mono ?_
      rintro e u1 ⟨⟨r1, rfl, hr1⟩, hc1⟩
      have HC1 := Lib.hid (HB6.out.trans (hc1.mono HB6.out.size))
      have HN1 := Lib.hid hr1
      clear hc1 hr1
      go_wp2_with fail
      refine (HT1.out _ r1 HN1.out HC1.out).mono ?_
      rintro e u2 ⟨⟨x2, rfl, hx2⟩, hc2⟩
      have HC2 := Lib.hid (HC1.out.trans (hc2.mono HC1.out.size))
      clear hc2 hx2
      go_wp2_with fail
      refine (HR2.out _).mono ?_
      rintro e u3 ⟨⟨r2, rfl, hr2⟩, hc3⟩
      have HC3 := Lib.hid (HC2.out.trans (hc3.mono HC2.out.size))
      have HN2 := Lib.hid hr2
      have hr2s : r2.size = 4097 - tb.size := by rw [← bI_len, hr2, List.length_replicate]
      have hs2 : ¬ 9223372036854775807 < tb.size + r2.size := by omega
      clear hc3 hr2 hr2s
      go_wp2_with fail
      refine (HT2.out _ r2 HN2.out HC3.out).mono ?_
      rintro e u4 ⟨⟨x4, rfl, hx4⟩, hc4⟩
      have HC4 := Lib.hid (HC3.out.trans (hc4.mono HC3.out.size))
      clear hc4 hx4
      go_wp2_with fail
      refine (HA.out _ HC4.out).mono ?_
      rintro e u5 ⟨rfl, hc5⟩
      have HC5 := Lib.hid (HC4.out.trans (hc5.mono HC4.out.size))
      clear hc5
      go_wp2_with fail
      go_ret
      exact ⟨rfl, HC5.out⟩
  · rcases hyc with (rfl | rfl | rfl | rfl) | ⟨hyb, a1, a2, a3, a4⟩
    · clear HT3 HBU y0 y1
      go_wp2_with fail
      refine (HR1.out _).mono ?_
      rintro e u1 ⟨⟨r1, rfl, hr1⟩, hc1⟩
      have HC1 := Lib.hid (HB5.out.trans (hc1.mono HB5.out.size))
      have HN1 := Lib.hid hr1
      clear hc1 hr1
      go_wp2_with fail
      refine (HT1.out _ r1 HN1.out HC1.out).mono ?_
      rintro e u2 ⟨⟨x2, rfl, hx2⟩, hc2⟩
      have HC2 := Lib.hid (HC1.out.trans (hc2.mono HC1.out.size))
      clear hc2 hx2
      go_wp2_with fail
      refine (HR2.out _).mono ?_
      rintro e u3 ⟨⟨r2, rfl, hr2⟩, hc3⟩
      have HC3 := Lib.hid (HC2.out.trans (hc3.mono HC2.out.size))
      have HN2 := Lib.hid hr2
      have hr2s : r2.size = 4097 - tb.size := by rw [← bI_len, hr2, List.length_replicate]
      have hs2 : ¬ 9223372036854775807 < tb.size + r2.size := by omega
      clear hc3 hr2 hr2s
      go_wp2_with fail
      refine (HT2.out _ r2 HN2.out HC3.out).mono ?_
      rintro e u4 ⟨⟨x4, rfl, hx4⟩, hc4⟩
      have HC4 := Lib.hid (HC3.out.trans (hc4.mono HC3.out.size))
      clear hc4 hx4
      go_wp2_with fail
      refine (HA.out _ HC4.out).mono ?_
      rintro e u5 ⟨rfl, hc5⟩
      have HC5 := Lib.hid (HC4.out.trans (hc5.mono HC4.out.size))
      clear hc5
      go_wp2_with fail
      go_ret
      exact ⟨rfl, HC5.out⟩
    · clear HT3 HBU y0 y1
      go_wp2_with fail
      refine (HR1.out _).mono ?_
      rintro e u1 ⟨⟨r1, rfl, hr1⟩, hc1⟩
      have HC1 := Lib.hid (HB5.out.trans (hc1.mono HB5.out.size))
      have HN1 := Lib.hid hr1
      clear hc1 hr1
      go_wp2_with fail
      refine (HT1.out _ r1 HN1.out HC1.out).mono ?_
      rintro e u2 ⟨⟨x2, rfl, hx2⟩, hc2⟩
      have HC2 := Lib.hid (HC1.out.trans (hc2.mono HC1.out.size))
      clear hc2 hx2
      go_wp2_with fail
      refine (HR2.out _).mono ?_
      rintro e u3 ⟨⟨r2, rfl, hr2⟩, hc3⟩
      have HC3 := Lib.hid (HC2.out.trans (hc3.mono HC2.out.size))
      have HN2 := Lib.hid hr2
      have hr2s : r2.size = 4097 - tb.size := by rw [← bI_len, hr2, List.length_replicate]
      have hs2 : ¬ 9223372036854775807 < tb.size + r2.size := by omega
      clear hc3 hr2 hr2s
      go_wp2_with fail
      refine (HT2.out _ r2 HN2.out HC3.out).mono ?_
      rintro e u4 ⟨⟨x4, rfl, hx4⟩, hc4⟩
      have HC4 := Lib.hid (HC3.out.trans (hc4.mono HC3.out.size))
      clear hc4 hx4
      go_wp2_with fail
      refine (HA.out _ HC4.out).mono ?_
      rintro e u5 ⟨rfl, hc5⟩
      have HC5 := Lib.hid (HC4.out.trans (hc5.mono HC4.out.size))
      clear hc5
      go_wp2_with fail
      go_ret
      exact ⟨rfl, HC5.out⟩
    · clear HT3 HBU y0 y1
      go_wp2_with fail
      refine (HR1.out _).mono ?_
      rintro e u1 ⟨⟨r1, rfl, hr1⟩, hc1⟩
      have HC1 := Lib.hid (HB5.out.trans (hc1.mono HB5.out.size))
      have HN1 := Lib.hid hr1
      clear hc1 hr1
      go_wp2_with fail
      refine (HT1.out _ r1 HN1.out HC1.out).mono ?_
      rintro e u2 ⟨⟨x2, rfl, hx2⟩, hc2⟩
      have HC2 := Lib.hid (HC1.out.trans (hc2.mono HC1.out.size))
      clear hc2 hx2
      go_wp2_with fail
      refine (HR2.out _).mono ?_
      rintro e u3 ⟨⟨r2, rfl, hr2⟩, hc3⟩
      have HC3 := Lib.hid (HC2.out.trans (hc3.mono HC2.out.size))
      have HN2 := Lib.hid hr2
      have hr2s : r2.size = 4097 - tb.size := by rw [← bI_len, hr2, List.length_replicate]
      have hs2 : ¬ 9223372036854775807 < tb.size + r2.size := by omega
      clear hc3 hr2 hr2s
      go_wp2_with fail
      refine (HT2.out _ r2 HN2.out HC3.out).mono ?_
      rintro e u4 ⟨⟨x4, rfl, hx4⟩, hc4⟩
      have HC4 := Lib.hid (HC3.out.trans (hc4.mono HC3.out.size))
      clear hc4 hx4
      go_wp2_with fail
      refine (HA.out _ HC4.out).mono ?_
      rintro e u5 ⟨rfl, hc5⟩
      have HC5 := Lib.hid (HC4.out.trans (hc5.mono HC4.out.size))
      clear hc5
      go_wp2_with fail
      go_ret
      exact ⟨rfl, HC5.out⟩
    · clear HT3 HBU y0 y1
      go_wp2_with fail
      refine (HR1.out _).mono ?_
      rintro e u1 ⟨⟨r1, rfl, hr1⟩, hc1⟩
      have HC1 := Lib.hid (HB5.out.trans (hc1.mono HB5.out.size))
      have HN1 := Lib.hid hr1
      clear hc1 hr1
      go_wp2_with fail
      refine (HT1.out _ r1 HN1.out HC1.out).mono ?_
      rintro e u2 ⟨⟨x2, rfl, hx2⟩, hc2⟩
      have HC2 := Lib.hid (HC1.out.trans (hc2.mono HC1.out.size))
      clear hc2 hx2
      go_wp2_with fail
      refine (HR2.out _).mono ?_
      rintro e u3 ⟨⟨r2, rfl, hr2⟩, hc3⟩
      have HC3 := Lib.hid (HC2.out.trans (hc3.mono HC2.out.size))
      have HN2 := Lib.hid hr2
      have hr2s : r2.size = 4097 - tb.size := by rw [← bI_len, hr2, List.length_replicate]
      have hs2 : ¬ 9223372036854775807 < tb.size + r2.size := by omega
      clear hc3 hr2 hr2s
      go_wp2_with fail
      refine (HT2.out _ r2 HN2.out HC3.out).mono ?_
      rintro e u4 ⟨⟨x4, rfl, hx4⟩, hc4⟩
      have HC4 := Lib.hid (HC3.out.trans (hc4.mono HC3.out.size))
      clear hc4 hx4
      go_wp2_with fail
      refine (HA.out _ HC4.out).mono ?_
      rintro e u5 ⟨rfl, hc5⟩
      have HC5 := Lib.hid (HC4.out.trans (hc5.mono HC4.out.size))
      clear hc5
      go_wp2_with fail
      go_ret
      exact ⟨rfl, HC5.out⟩
    · have n1 : (y != 32) = true := by simpa using a1
      have n2 : (y != 9) = true := by simpa using a2
      have n3 : (y != 10) = true := by simpa using a3
      have n4 : (y != 13) = true := by simpa using a4
      have HAY := Lib.hid (fun (W : World) (T : TypeId) (h : Below w.heap.size w W) => h.alloc h.size (.cells #[.int .u8 y] T))
      have hru := HBU.out w5
      have hs1 : ¬ 9223372036854775807 < tb.size + (str [y]).size := by rw [str_size, List.length_singleton]; omega
      clear a1 a2 a3 a4
      go_wp2_with fail
      refine (HT3.out _ (HAY.out _ _ HB5.out) hyb).mono ?_
      rintro e w6 ⟨⟨x6, rfl, hx6⟩, hb6⟩
      have HB6 := Lib.hid ((HAY.out _ _ HB5.out).trans (hb6.mono (HAY.out _ 5 HB5.out).size))
      clear hb6 hx6
      go_wp2_with fail
      refine (HR1.out _).mono ?_
      rintro e u1 ⟨⟨r1, rfl, hr1⟩, hc1⟩
      have HC1 := Lib.hid (HB6.out.trans (hc1.mono HB6.out.size))
      have HN1 := Lib.hid hr1
      clear hc1 hr1
      go_wp2_with fail
      refine (HT1.out _ r1 HN1.out HC1.out).mono ?_
      rintro e u2 ⟨⟨x2, rfl, hx2⟩, hc2⟩
      have HC2 := Lib.hid (HC1.out.trans (hc2.mono HC1.out.size))
      clear hc2 hx2
      go_wp2_with fail
      refine (HR2.out _).mono ?_
      rintro e u3 ⟨⟨r2, rfl, hr2⟩, hc3⟩
      have HC3 := Lib.hid (HC2.out.trans (hc3.mono HC2.out.size))
      have HN2 := Lib.hid hr2
      have hr2s : r2.size = 4097 - tb.size := by rw [← bI_len, hr2, List.length_replicate]
      have hs2 : ¬ 9223372036854775807 < tb.size + r2.size := by omega
      clear hc3 hr2 hr2s
      go_wp2_with fail
      refine (HT2.out _ r2 HN2.out HC3.out).mono ?_
      rintro e u4 ⟨⟨x4, rfl, hx4⟩, hc4⟩
      have HC4 := Lib.hid (HC3.out.trans (hc4.mono HC3.out.size))
      clear hc4 hx4
      go_wp2_with fail
      refine (HA.out _ HC4.out).mono ?_
      rintro e u5 ⟨rfl, hc5⟩
      have HC5 := Lib.hid (HC4.out.trans (hc5.mono HC4.out.size))
      clear hc5
      go_wp2_with fail
      go_ret
      exact ⟨rfl, HC5.out⟩
end Go.Proofs.YtbkceneakdbdkaaGreatDoor
