/- NotesPuts: its walk. -/
import Derived.Test.YtbkceneakdbdkaaGreatDoorMX
import Derived.Deep.RegionHeld3
namespace Go.Proofs.YtbkceneakdbdkaaGreatDoor
open Go.RowKit
set_option maxRecDepth 20000
set_option linter.unusedVariables false
set_option linter.unusedSimpArgs false
set_option maxHeartbeats 8000000
theorem len_light2 {v : Nt} (h : 0 ≤ wgV 200 v) (hc : chkV 1 (toJ v) = 0) : (printV (toJ v)).length ≤ 800000 := by
  have := len_V 1 200 v h hc
  omega
theorem sz_light2 {v : Nt} (h : 0 ≤ wgV 200 v) : szV (toJ v) ≤ 1000000 := by
  have := sz_light 200 v h
  omega
theorem fit_kid (name : ByteArray) : ∀ (kids : Nl) (names : List ByteArray) (z : Nt), FitL kids → findL name names kids = some z → Fit z
  | .nil, names, z, h, e => by cases names <;> cases e
  | .cons v t, [], z, h, e => by cases e
  | .cons v t, n :: ns, z, h, e => by
    rw [FitL] at h
    rw [findL] at e
    split at e
    · obtain rfl := Option.some.inj e; exact h.1
    · exact fit_kid name t ns z h.2 e
theorem fit_found {name : ByteArray} {v z : Nt} (h : Fit v) (e : findV name v = some z) : Fit z := by
  obtain ⟨k, n, s, nv, names, kv, kids⟩ := v
  rw [Fit] at h
  rw [findV] at e
  split at e
  · exact fit_kid name kids names z h.2.2.2.2 e
  · cases e
theorem text_is (k n : Int) (s : ByteArray) (nv : Value) (names : List ByteArray) (kv : Value) (kids : Nl) (h0 : 0 ≤ k) : (∃ l, toJ (.mk k n s nv names kv kids) = .str l) ↔ k = 4 := by
  rcases toJ_cases k n s nv names kv kids h0 with ⟨h1, h⟩ | ⟨rfl, h⟩ | ⟨rfl, h⟩ | ⟨rfl, h⟩ | ⟨rfl, h⟩ | ⟨rfl, h⟩ | ⟨rfl, h⟩ | ⟨rfl, h⟩ <;> rw [h] <;> simp
  omega
def Bx2 (w W : World) (k n : Int) (s : ByteArray) (nv kv : Value) (k' n' : Int) (s' : ByteArray) (nv' kv' : Value) : Prop := BoxAt W w.heap.size k n s nv kv ∧ BoxAt W (w.heap.size + 1) k' n' s' nv' kv' ∧ Below w.heap.size w W
theorem Bx2.later {w W W' : World} {k n : Int} {s : ByteArray} {nv kv : Value} {k' n' : Int} {s' : ByteArray} {nv' kv' : Value} (h : Bx2 w W k n s nv kv k' n' s' nv' kv') (hb : Below W.heap.size W W') : Bx2 w W' k n s nv kv k' n' s' nv' kv' :=
  ⟨h.1.later hb, h.2.1.later hb, h.2.2.trans (hb.mono h.2.2.size)⟩
theorem notesputs_law (v1 v2 : Nt) (name : ByteArray) (w : World) (i1 : v1.In w) (i2 : v2.In w) (hn : name.size ≤ maxLen) (hq : QTab w) : Calls Tryz.prog 3 #[ntA v1, ntA v2, .string name] w fun e w' => e = .returned (.bool true) ∧ Below w.heap.size w w' := by
  obtain ⟨k, n, s, nv, names, kv, kids⟩ := v1
  obtain ⟨k', n', s', nv', names', kv', kids'⟩ := v2
  have HA := Lib.hid (fun (W : World) (hb : Below w.heap.size w W) => awake_any W (hq.below hb))
  have HL1 := Lib.hid (fun (W : World) (hb : Below w.heap.size w W) => light_any (.mk k n s nv names kv kids) 200 W (i1.below hb) (by omega) (by omega))
  have HL2 := Lib.hid (fun (W : World) (hb : Below w.heap.size w W) => light_any (.mk k' n' s' nv' names' kv' kids') 200 W (i2.below hb) (by omega) (by omega))
  have HI1 := Lib.hid i1
  have HI2 := Lib.hid i2
  have HQ := Lib.hid hq
  have hk0 : 0 ≤ k := by rw [Nt.In] at i1; exact i1.1.1
  have HX : Hid (∀ T, Bx2 w ((w.alloc (.cells #[.int .u8 k, .int .i64 n, .string s, nv, kv] T)).alloc (.cells #[.int .u8 k', .int .i64 n', .string s', nv', kv'] T)) k n s nv kv k' n' s' nv' kv') := Lib.hid (fun T => by
    refine ⟨(BoxAt.made w k n s nv kv T).later ((Below.refl _ _).alloc (Nat.le_refl _) _), ?_, ((Below.refl _ w).alloc (Nat.le_refl _) _).alloc (by simp) _⟩
    have := BoxAt.made (w.alloc (.cells #[.int .u8 k, .int .i64 n, .string s, nv, kv] T)) k' n' s' nv' kv' T
    rwa [World.size_alloc] at this)
  clear hq i1 i2
  show Calls _ _ #[.agg #[.int .u8 k, .int .i64 n, .string s, nv, kv], .agg #[.int .u8 k', .int .i64 n', .string s', nv', kv'], .string name] _ _
  by_cases h1 : ¬ 0 ≤ wgV 200 (.mk k n s nv names kv kids)
  · rw [decide_eq_false h1] at HL1
    clear h1
    go_enter Tryz.func3, Tryz.ntmps3
    go_wp2_with fail
    refine (HL1.out _ (HX.out _).2.2).mono ?_
    rintro e w1 ⟨rfl, hb1⟩
    have HB1 := Lib.hid ((HX.out 25).2.2.trans (hb1.mono (HX.out 25).2.2.size))
    clear hb1
    go_wp2_with fail
    refine (HA.out _ HB1.out).mono ?_
    rintro e w2 ⟨rfl, hb2⟩
    have HB2 := Lib.hid (HB1.out.trans (hb2.mono HB1.out.size))
    clear hb2
    go_wp2_with fail
    go_ret
    exact ⟨rfl, HB2.out⟩
  have h1 := Decidable.not_not.1 h1
  rw [decide_eq_true h1] at HL1
  by_cases h2 : ¬ 0 ≤ wgV 200 (.mk k' n' s' nv' names' kv' kids')
  · rw [decide_eq_false h2] at HL2
    clear h1 h2
    go_enter Tryz.func3, Tryz.ntmps3
    go_wp2_with fail
    refine (HL1.out _ (HX.out _).2.2).mono ?_
    rintro e w1 ⟨rfl, hb1⟩
    have HX1 := Lib.hid ((HX.out 25).later hb1)
    clear hb1
    obtain ⟨⟨b0, b1, b2, b3, b4⟩, ⟨c0, c1, c2, c3, c4⟩, hbw⟩ := HX1.out
    clear hbw
    go_wp2_with fail
    refine (HL2.out _ HX1.out.2.2).mono ?_
    rintro e w2 ⟨rfl, hb2⟩
    have HB2 := Lib.hid (HX1.out.2.2.trans (hb2.mono HX1.out.2.2.size))
    clear hb2 b0 b1 b2 b3 b4 c0 c1 c2 c3 c4
    go_wp2_with fail
    refine (HA.out _ HB2.out).mono ?_
    rintro e w3 ⟨rfl, hb3⟩
    have HB3 := Lib.hid (HB2.out.trans (hb3.mono HB2.out.size))
    clear hb3
    go_wp2_with fail
    go_ret
    exact ⟨rfl, HB3.out⟩
  have h2 := Decidable.not_not.1 h2
  rw [decide_eq_true h2] at HL2
  have f1 := fit_of 200 (.mk k n s nv names kv kids) h1
  have f2 := fit_of 200 (.mk k' n' s' nv' names' kv' kids') h2
  have HO1 := Lib.hid (fun (W : World) (hb : Below w.heap.size w W) => own_any (.mk k n s nv names kv kids) W (HI1.out.below hb) f1)
  have HO2 := Lib.hid (fun (W : World) (hb : Below w.heap.size w W) => own_any (.mk k' n' s' nv' names' kv' kids') W (HI2.out.below hb) f2)
  have HPU := Lib.hid (fun (W : World) (x : Value) (hb : Below w.heap.size w W) (hx : AnyAt aB W (toJ (.mk k n s nv names kv kids)) x) => pput_any aB (toJ (.mk k n s nv names kv kids)) x W hx (HQ.out.below hb) (len_light2 h1))
  have HRP := Lib.hid (fun (W : World) (hb : Below w.heap.size w W) => rput_any (.mk k n s nv names kv kids) W (HI1.out.below hb) h1)
  have HFI := Lib.hid (fun (W : World) (x : Value) (hx : AnyAt aB W (toJ (.mk k n s nv names kv kids)) x) => pfind_any aB (toJ (.mk k n s nv names kv kids)) x name W hx (sz_light2 h1))
  have HRF := Lib.hid (fun (W : World) (hb : Below w.heap.size w W) => rfind_any (.mk k n s nv names kv kids) name W (HI1.out.below hb) f1 hn)
  have HFV := Lib.hid (findV_is name (.mk k n s nv names kv kids) f1)
  have HFF := Lib.hid (fun z => fit_found (name := name) (z := z) f1)
  have HTX := Lib.hid (fun (W : World) (x : Value) (hx : AnyAt aB W (toJ (.mk k n s nv names kv kids)) x) => ptext_any aB (toJ (.mk k n s nv names kv kids)) x W hx)
  have HCK := Lib.hid (fun (W : World) (x : Value) (hx : AnyAt aB W (toJ (.mk k n s nv names kv kids)) x) => pcheck_any aB (toJ (.mk k n s nv names kv kids)) x W hx)
  have HRC := Lib.hid (fun (W : World) (hb : Below w.heap.size w W) => rcheck_any (.mk k n s nv names kv kids) W (HI1.out.below hb) f1)
  have HSM := Lib.hid (fun (W : World) (x y : Value) (hx : AnyAt aB W (toJ (.mk k n s nv names kv kids)) x) (hy : AnyAt aB W (toJ (.mk k' n' s' nv' names' kv' kids')) y) => psame_any aB aB (toJ (.mk k n s nv names kv kids)) (toJ (.mk k' n' s' nv' names' kv' kids')) x y W hx hy (bare_toJ _) (bare_toJ _))
  have HRS := Lib.hid (fun (W : World) (hb : Below w.heap.size w W) => rsame_any (.mk k n s nv names kv kids) (.mk k' n' s' nv' names' kv' kids') W (HI1.out.below hb) (HI2.out.below hb) h1 h2)
  have HSI := Lib.hid (same_is (bare_toJ (.mk k n s nv names kv kids)) (bare_toJ (.mk k' n' s' nv' names' kv' kids')))
  have HTI := Lib.hid (text_is k n s nv names kv kids hk0)
  have HT4 : Hid (k = 4 → toJ (.mk k n s nv names kv kids) = .str (bI s)) := Lib.hid (fun e => by subst e; rw [toJ]; simp)
  have HS5 := Lib.hid (show s.size ≤ 300 by rw [Fit] at f1; exact f1.1)
  unfold OwnEnd at HO1 HO2
  unfold BoE at HSM
  unfold FindE at HFI
  rw [HFV.out] at HFI
  generalize sameV (toJ (.mk k n s nv names kv kids)) (toJ (.mk k' n' s' nv' names' kv' kids')) = sv at HRS HSI
  generalize chkV 1 (toJ (.mk k n s nv names kv kids)) = ck at HCK HRC HSI HSM
  generalize (putV (toJ (.mk k n s nv names kv kids))) = pv at HPU HRP
  generalize hj1 : toJ (.mk k n s nv names kv kids) = J1 at HO1 HPU HFI HTX HCK HSM HSI HTI HT4 HFV
  generalize hj2 : toJ (.mk k' n' s' nv' names' kv' kids') = J2 at HO2 HSM HSI
  clear f1 f2 h1 h2 hj1 hj2
  go_enter Tryz.func3, Tryz.ntmps3
  go_wp2_with fail
  refine (HL1.out _ (HX.out _).2.2).mono ?_
  rintro e w1 ⟨rfl, hb1⟩
  have HX1 := Lib.hid ((HX.out 25).later hb1)
  clear hb1
  obtain ⟨⟨b0, b1, b2, b3, b4⟩, ⟨c0, c1, c2, c3, c4⟩, hbw⟩ := HX1.out
  clear hbw
  go_wp2_with fail
  refine (HL2.out _ HX1.out.2.2).mono ?_
  rintro e w2 ⟨rfl, hb2⟩
  have HX2 := Lib.hid (HX1.out.later hb2)
  clear hb2 b0 b1 b2 b3 b4 c0 c1 c2 c3 c4
  obtain ⟨⟨b0, b1, b2, b3, b4⟩, ⟨c0, c1, c2, c3, c4⟩, hbw⟩ := HX2.out
  clear hbw
  go_wp2_with fail
  refine (HO1.out _ HX2.out.2.2).mono ?_
  rintro e w3 ⟨⟨x, rfl, hx⟩, hb3⟩
  have HX3 := Lib.hid (HX2.out.later hb3)
  have HV3 := Lib.hid (hx.mono (S' := aB) (fun _ _ => trivial))
  clear hb3 hx b0 b1 b2 b3 b4 c0 c1 c2 c3 c4
  go_wp2_with fail
  refine (HPU.out _ x HX3.out.2.2 HV3.out).mono ?_
  rintro e w4 ⟨rfl, hb4⟩
  have HX4 := Lib.hid (HX3.out.later hb4)
  have HV4 := Lib.hid (HV3.out.below hb4)
  clear hb4
  obtain ⟨⟨b0, b1, b2, b3, b4⟩, ⟨c0, c1, c2, c3, c4⟩, hbw⟩ := HX4.out
  clear hbw
  go_wp2_with fail
  refine (HRP.out _ HX4.out.2.2).mono ?_
  rintro e w5 ⟨rfl, hb5⟩
  have HX5 := Lib.hid (HX4.out.later hb5)
  have HV5 := Lib.hid (HV4.out.below hb5)
  clear hb5 b0 b1 b2 b3 b4 c0 c1 c2 c3 c4
  go_wp2_with fail
  refine (HFI.out _ x HV5.out).mono ?_
  rintro e w6 ⟨⟨y, bf, rfl, hy1, hy0⟩, hb6⟩
  have HX6 := Lib.hid (HX5.out.later hb6)
  have HV6 := Lib.hid (HV5.out.below hb6)
  have HY1 := Lib.hid hy1
  have HY0 := Lib.hid hy0
  clear hb6 hy1 hy0
  obtain ⟨⟨b0, b1, b2, b3, b4⟩, ⟨c0, c1, c2, c3, c4⟩, hbw⟩ := HX6.out
  clear hbw
  go_wp2_with fail
  refine (HRF.out _ HX6.out.2.2).mono ?_
  rintro e w7 ⟨⟨z, rfl, hz, hzo⟩, hb7⟩
  have HX7 := Lib.hid (HX6.out.later hb7)
  have HV7 := Lib.hid (HV6.out.below hb7)
  have HZ7 := Lib.hid hz
  have hbf : bf = (findV name (.mk k n s nv names kv kids)).isSome := by
    cases bf with
    | true =>
      obtain ⟨K, hK, _⟩ := HY1.out rfl
      cases hf : findV name (.mk k n s nv names kv kids) with
      | none => rw [hf] at hK; cases hK
      | some z2 => rfl
    | false =>
      have := (HY0.out rfl).1
      cases hf : findV name (.mk k n s nv names kv kids) with
      | none => rfl
      | some z2 => rw [hf] at this; cases this
  have HYK := Lib.hid (show bf = true → ∃ K, K = toJ z ∧ Fit z ∧ AnyAt aB w7 K y from fun e => by
    obtain ⟨K, hK, hy⟩ := HY1.out e
    rcases hzo with hzo | ⟨hzo, _⟩
    · rw [hzo] at hK
      exact ⟨K, (Option.some.inj hK).symm, HFF.out z hzo, hy.below hb7⟩
    · rw [hzo] at hK; cases hK)
  rw [← hbf] 
  have HYN := Lib.hid (show bf = false → y = .nilIface from fun e => (HY0.out e).2)
  clear hb7 hz hzo hbf b0 b1 b2 b3 b4 c0 c1 c2 c3 c4 HY1 HY0 HFF HFV HFI HRF
  obtain ⟨kz, nz, sz, nvz, namesz, kvz, kidsz⟩ := z
  obtain ⟨za, zn, zc, rfl, za', zn', zc', rfl⟩ : ∃ a n c, nvz = .slice a n c ∧ ∃ a' n' c', kvz = .slice a' n' c' := by
    have hz := HZ7.out
    rw [Nt.In] at hz
    obtain ⟨_, _, _, ⟨a, cap, h, _⟩, a', cap', h', _⟩ := hz
    exact ⟨_, _, _, h, _, _, _, h'⟩
  unfold ntA ntCells
  have HZX : Hid (∀ T, BoxAt (w7.alloc (.cells #[.int .u8 kz, .int .i64 nz, .string sz, .slice za zn zc, .slice za' zn' zc'] T)) w7.heap.size kz nz sz (.slice za zn zc) (.slice za' zn' zc')) := Lib.hid (fun T => BoxAt.made w7 _ _ _ _ _ T)
  go_wp2_with fail
  obtain ⟨W8, HW8⟩ : ∃ W8, Hid (W8 = w7.alloc (.cells #[.int .u8 kz, .int .i64 nz, .string sz, .slice za zn zc, .slice za' zn' zc'] 25)) := ⟨_, Lib.hid rfl⟩
  rw [← HW8.out]
  have hb78 : Below w7.heap.size w7 W8 := by rw [HW8.out]; exact (Below.refl _ _).alloc (Nat.le_refl _) _
  have HX8 := Lib.hid (HX7.out.later hb78)
  have HV8 := Lib.hid (HV7.out.below hb78)
  have HZ8 := Lib.hid (HZ7.out.below hb78)
  have HB8 : Hid (BoxAt W8 w7.heap.size kz nz sz (.slice za zn zc) (.slice za' zn' zc')) := Lib.hid (by rw [HW8.out]; exact HZX.out _)
  have HY8 := Lib.hid (show bf = true → AnyAt aB W8 (toJ (.mk kz nz sz (.slice za zn zc) namesz (.slice za' zn' zc') kidsz)) y ∧ Fit (.mk kz nz sz (.slice za zn zc) namesz (.slice za' zn' zc') kidsz) from fun e => by
    obtain ⟨K, hK, hf, hy⟩ := HYK.out e
    rw [← hK]
    exact ⟨hy.below hb78, hf⟩)
  clear hb78 HYK HZX HW8 HX7 HV7 HZ7
  refine (HTX.out _ x HV8.out).mono ?_
  rintro e w9 ⟨⟨t, bt, rfl, hbt, hts, ht0⟩, hb9⟩
  have HX9 := Lib.hid (HX8.out.later hb9)
  have HV9 := Lib.hid (HV8.out.below hb9)
  have HB9 := Lib.hid (HB8.out.later hb9)
  have HY9 := Lib.hid (show bf = true → AnyAt aB w9 (toJ (.mk kz nz sz (.slice za zn zc) namesz (.slice za' zn' zc') kidsz)) y ∧ Fit (.mk kz nz sz (.slice za zn zc) namesz (.slice za' zn' zc') kidsz) from fun e => ⟨(HY8.out e).1.below hb9, (HY8.out e).2⟩)
  have HZ9 := Lib.hid (HZ8.out.below hb9)
  have hbk : bt = decide (k = 4) := by
    rw [Bool.eq_iff_iff, decide_eq_true_iff, hbt]
    exact HTI.out
  clear hb9 hbt HX8 HV8 HB8 HY8 HZ8
  by_cases h4 : k = 4
  · have h4b : (k == 4) = true := by simpa using h4
    have hbt : bt = true := by rw [hbk]; simpa using h4
    have hts2 : bI t = bI s := hts _ (HT4.out h4)
    obtain rfl : t = s := bI_inj hts2
    subst hbt
    clear hbk hts ht0 hts2
    obtain rfl : x = .iface 9 (.string t) := by
      have h := HV9.out
      rw [HT4.out h4, AnyAt] at h
      obtain ⟨q, h1, h2, _⟩ := h
      rw [h1, bI_inj h2]
    subst h4
    clear h4b HT4 HTI
    have HMT := Lib.hid (fun W => pmust_any t W (by have := HS5.out; omega))
    obtain ⟨⟨b0, b1, b2, b3, b4⟩, ⟨c0, c1, c2, c3, c4⟩, hbw⟩ := HX9.out
    clear hbw
    go_upto_region 9 with fail
    have HS9 : w9.drew.cell? ⟨w.heap.size, 0, none⟩ = some (.int .u8 4) ∧ w9.drew.cell? ⟨w.heap.size, 1, none⟩ = some (.int .i64 n) ∧ w9.drew.cell? ⟨w.heap.size, 2, none⟩ = some (.string t) ∧ w9.drew.cell? ⟨w.heap.size, 3, none⟩ = some (nv) ∧ w9.drew.cell? ⟨w.heap.size, 4, none⟩ = some (kv) ∧ w9.drew.cell? ⟨w.heap.size + 1, 0, none⟩ = some (.int .u8 k') ∧ w9.drew.cell? ⟨w.heap.size + 1, 1, none⟩ = some (.int .i64 n') ∧ w9.drew.cell? ⟨w.heap.size + 1, 2, none⟩ = some (.string s') ∧ w9.drew.cell? ⟨w.heap.size + 1, 3, none⟩ = some (nv') ∧ w9.drew.cell? ⟨w.heap.size + 1, 4, none⟩ = some (kv') ∧ Below w9.heap.size w9 w9.drew := ⟨b0, b1, b2, b3, b4, c0, c1, c2, c3, c4, (Below.refl _ w9).drew⟩
    clear b0 b1 b2 b3 b4 c0 c1 c2 c3 c4
    refine wp_region_held_drew (S := fun w' => w'.cell? ⟨w.heap.size, 0, none⟩ = some (.int .u8 4) ∧ w'.cell? ⟨w.heap.size, 1, none⟩ = some (.int .i64 n) ∧ w'.cell? ⟨w.heap.size, 2, none⟩ = some (.string t) ∧ w'.cell? ⟨w.heap.size, 3, none⟩ = some (nv) ∧ w'.cell? ⟨w.heap.size, 4, none⟩ = some (kv) ∧ w'.cell? ⟨w.heap.size + 1, 0, none⟩ = some (.int .u8 k') ∧ w'.cell? ⟨w.heap.size + 1, 1, none⟩ = some (.int .i64 n') ∧ w'.cell? ⟨w.heap.size + 1, 2, none⟩ = some (.string s') ∧ w'.cell? ⟨w.heap.size + 1, 3, none⟩ = some (nv') ∧ w'.cell? ⟨w.heap.size + 1, 4, none⟩ = some (kv') ∧ Below w9.heap.size w9 w') (by kernel_rfl) HS9 (fun hH0 => ?_)
    refine takeH (i := 0) (d := 56) (v := ?_) rfl rfl (by kernel_rfl) (by kernel_rfl) (by kernel_rfl) (fun _ _ _ h => h) (Or.inl ⟨by rfl, ?yn0⟩) hH0 ?_
    case yn0 => intro w hSw; obtain ⟨hq0, hq1, hq2, hq3, hq4, hq5, hq6, hq7, hq8, hq9, hq10⟩ := hSw; go_simp; try with_reducible rfl
    try simp only [Act.put, List.setIfInBounds_toArray, List.set_cons_zero, List.set_cons_succ]
    refine takeH (i := 1) (d := 57) (v := ?_) rfl rfl (by kernel_rfl) (by kernel_rfl) (by kernel_rfl) (fun _ _ _ h => h) (Or.inl ⟨by rfl, ?yn1⟩) hH0 ?_
    case yn1 => intro w hSw; obtain ⟨hq0, hq1, hq2, hq3, hq4, hq5, hq6, hq7, hq8, hq9, hq10⟩ := hSw; go_simp; try with_reducible rfl
    try simp only [Act.put, List.setIfInBounds_toArray, List.set_cons_zero, List.set_cons_succ]
    refine takeH (i := 2) (d := 58) (v := ?_) rfl rfl (by kernel_rfl) (by kernel_rfl) (by kernel_rfl) (fun _ _ _ h => h) (Or.inl ⟨by rfl, ?yn2⟩) hH0 ?_
    case yn2 => intro w hSw; obtain ⟨hq0, hq1, hq2, hq3, hq4, hq5, hq6, hq7, hq8, hq9, hq10⟩ := hSw; go_simp; try with_reducible rfl
    try simp only [Act.put, List.setIfInBounds_toArray, List.set_cons_zero, List.set_cons_succ]
    refine takeH (i := 3) (d := 59) (v := ?_) rfl rfl (by kernel_rfl) (by kernel_rfl) (by kernel_rfl) (fun _ _ _ h => h) (Or.inl ⟨by rfl, ?yn3⟩) hH0 ?_
    case yn3 => intro w hSw; obtain ⟨hq0, hq1, hq2, hq3, hq4, hq5, hq6, hq7, hq8, hq9, hq10⟩ := hSw; go_simp; try with_reducible rfl
    try simp only [Act.put, List.setIfInBounds_toArray, List.set_cons_zero, List.set_cons_succ]
    refine takeH (i := 4) (d := 60) (v := ?_) rfl rfl (by kernel_rfl) (by kernel_rfl) (by kernel_rfl) (fun _ _ _ h => h) (Or.inl ⟨by rfl, ?yn4⟩) hH0 ?_
    case yn4 => intro w hSw; obtain ⟨hq0, hq1, hq2, hq3, hq4, hq5, hq6, hq7, hq8, hq9, hq10⟩ := hSw; go_simp; try with_reducible rfl
    try simp only [Act.put, List.setIfInBounds_toArray, List.set_cons_zero, List.set_cons_succ]
    refine takeH (i := 5) (d := 61) (v := ?_) rfl rfl (by kernel_rfl) (by kernel_rfl) (by kernel_rfl) (fun _ _ _ h => h) (Or.inl ⟨by rfl, ?yn5⟩) hH0 ?_
    case yn5 => intro w hSw; obtain ⟨hq0, hq1, hq2, hq3, hq4, hq5, hq6, hq7, hq8, hq9, hq10⟩ := hSw; go_simp; try with_reducible rfl
    try simp only [Act.put, List.setIfInBounds_toArray, List.set_cons_zero, List.set_cons_succ]
    refine takeH (i := 6) (d := 62) (v := ?_) rfl rfl (by kernel_rfl) (by kernel_rfl) (by kernel_rfl) (fun _ _ _ h => h) (Or.inl ⟨by rfl, ?yn6⟩) hH0 ?_
    case yn6 => intro w hSw; obtain ⟨hq0, hq1, hq2, hq3, hq4, hq5, hq6, hq7, hq8, hq9, hq10⟩ := hSw; go_simp; try with_reducible rfl
    try simp only [Act.put, List.setIfInBounds_toArray, List.set_cons_zero, List.set_cons_succ]
    refine takeH (i := 7) (d := 63) (v := ?_) rfl rfl (by kernel_rfl) (by kernel_rfl) (by kernel_rfl) (fun _ _ _ h => h) (Or.inl ⟨by rfl, ?yn7⟩) hH0 ?_
    case yn7 => intro w hSw; obtain ⟨hq0, hq1, hq2, hq3, hq4, hq5, hq6, hq7, hq8, hq9, hq10⟩ := hSw; go_simp; try with_reducible rfl
    try simp only [Act.put, List.setIfInBounds_toArray, List.set_cons_zero, List.set_cons_succ]
    refine takeH (i := 8) (d := 64) (v := ?_) rfl rfl (by kernel_rfl) (by kernel_rfl) (by kernel_rfl) (fun _ _ _ h => h) (Or.inl ⟨by rfl, ?yn8⟩) hH0 ?_
    case yn8 => intro w hSw; obtain ⟨hq0, hq1, hq2, hq3, hq4, hq5, hq6, hq7, hq8, hq9, hq10⟩ := hSw; go_simp; try with_reducible rfl
    try simp only [Act.put, List.setIfInBounds_toArray, List.set_cons_zero, List.set_cons_succ]
    refine takeH (i := 9) (d := 65) (v := ?_) rfl rfl (by kernel_rfl) (by kernel_rfl) (by kernel_rfl) (fun _ _ _ h => h) (Or.inl ⟨by rfl, ?yn9⟩) hH0 ?_
    case yn9 => intro w hSw; obtain ⟨hq0, hq1, hq2, hq3, hq4, hq5, hq6, hq7, hq8, hq9, hq10⟩ := hSw; go_simp; try with_reducible rfl
    try simp only [Act.put, List.setIfInBounds_toArray, List.set_cons_zero, List.set_cons_succ]
    refine takeH (i := 11) (d := 67) (v := ?_) rfl rfl (by kernel_rfl) (by kernel_rfl) (by kernel_rfl) (fun _ _ _ h => h) (Or.inl ⟨by rfl, ?yn11⟩) hH0 ?_
    case yn11 => intro w hSw; obtain ⟨hq0, hq1, hq2, hq3, hq4, hq5, hq6, hq7, hq8, hq9, hq10⟩ := hSw; go_simp; try with_reducible rfl
    try simp only [Act.put, List.setIfInBounds_toArray, List.set_cons_zero, List.set_cons_succ]
    refine wpAnyH_ready (rs := [10]) (by kernel_rfl) (by simp) ?_
    refine AllReadyH.cons rfl (fun K hK => ?_) AllReadyH.nil
    go_simp
    refine (HCK.out _ _ (HV9.out.below hH0.2.2.2.2.2.2.2.2.2.2)).mono ?_
    rintro e w' ⟨rfl, hb⟩
    go_wp2_with fail
    refine hK.out _ _ (⟨cell_kept hb hH0.1, cell_kept hb hH0.2.1, cell_kept hb hH0.2.2.1, cell_kept hb hH0.2.2.2.1, cell_kept hb hH0.2.2.2.2.1, cell_kept hb hH0.2.2.2.2.2.1, cell_kept hb hH0.2.2.2.2.2.2.1, cell_kept hb hH0.2.2.2.2.2.2.2.1, cell_kept hb hH0.2.2.2.2.2.2.2.2.1, cell_kept hb hH0.2.2.2.2.2.2.2.2.2.1, hH0.2.2.2.2.2.2.2.2.2.2.trans (hb.mono hH0.2.2.2.2.2.2.2.2.2.2.size)⟩) (fun hH1 => ?_)
    clear hK K hb hH0
    try simp only [Act.put, List.setIfInBounds_toArray, List.set_cons_zero, List.set_cons_succ]
    refine wpAnyH_ready (rs := [12]) (by kernel_rfl) (by simp) ?_
    refine AllReadyH.cons rfl (fun K hK => ?_) AllReadyH.nil
    go_simp
    refine (HRC.out _ (HX9.out.2.2.trans (hH1.2.2.2.2.2.2.2.2.2.2.mono HX9.out.2.2.size))).mono ?_
    rintro e w10 ⟨rfl, hb⟩
    go_wp2_with fail
    refine hK.out _ _ (⟨cell_kept hb hH1.1, cell_kept hb hH1.2.1, cell_kept hb hH1.2.2.1, cell_kept hb hH1.2.2.2.1, cell_kept hb hH1.2.2.2.2.1, cell_kept hb hH1.2.2.2.2.2.1, cell_kept hb hH1.2.2.2.2.2.2.1, cell_kept hb hH1.2.2.2.2.2.2.2.1, cell_kept hb hH1.2.2.2.2.2.2.2.2.1, cell_kept hb hH1.2.2.2.2.2.2.2.2.2.1, hH1.2.2.2.2.2.2.2.2.2.2.trans (hb.mono hH1.2.2.2.2.2.2.2.2.2.2.size)⟩) (fun hH2 => ?_)
    clear hK K hb hH1
    try simp only [Act.put, List.setIfInBounds_toArray, List.set_cons_zero, List.set_cons_succ]
    refine takeH (i := 13) (d := 69) (v := ?_) rfl rfl (by kernel_rfl) (by kernel_rfl) (by kernel_rfl) (fun _ _ _ h => h) (Or.inl ⟨by rfl, ?yn13⟩) hH2 ?_
    case yn13 => intro w hSw; obtain ⟨hq0, hq1, hq2, hq3, hq4, hq5, hq6, hq7, hq8, hq9, hq10⟩ := hSw; go_simp; try with_reducible rfl
    try simp only [Act.put, List.setIfInBounds_toArray, List.set_cons_zero, List.set_cons_succ]
    refine takeH (i := 14) (d := 70) (v := ?_) rfl rfl (by kernel_rfl) (by kernel_rfl) (by kernel_rfl) (fun _ _ _ h => h) (Or.inl ⟨by rfl, ?yn14⟩) hH2 ?_
    case yn14 => intro w hSw; obtain ⟨hq0, hq1, hq2, hq3, hq4, hq5, hq6, hq7, hq8, hq9, hq10⟩ := hSw; go_simp; try with_reducible rfl
    try simp only [Act.put, List.setIfInBounds_toArray, List.set_cons_zero, List.set_cons_succ]
    refine takeH (i := 15) (d := 71) (v := ?_) rfl rfl (by kernel_rfl) (by kernel_rfl) (by kernel_rfl) (fun _ _ _ h => h) (Or.inl ⟨by rfl, ?yn15⟩) hH2 ?_
    case yn15 => intro w hSw; obtain ⟨hq0, hq1, hq2, hq3, hq4, hq5, hq6, hq7, hq8, hq9, hq10⟩ := hSw; go_simp; try with_reducible rfl
    try simp only [Act.put, List.setIfInBounds_toArray, List.set_cons_zero, List.set_cons_succ]
    refine takeH (i := 16) (d := 72) (v := ?_) rfl rfl (by kernel_rfl) (by kernel_rfl) (by kernel_rfl) (fun _ _ _ h => h) (Or.inl ⟨by rfl, ?yn16⟩) hH2 ?_
    case yn16 => intro w hSw; obtain ⟨hq0, hq1, hq2, hq3, hq4, hq5, hq6, hq7, hq8, hq9, hq10⟩ := hSw; go_simp; try with_reducible rfl
    try simp only [Act.put, List.setIfInBounds_toArray, List.set_cons_zero, List.set_cons_succ]
    refine takeH (i := 17) (d := 73) (v := ?_) rfl rfl (by kernel_rfl) (by kernel_rfl) (by kernel_rfl) (fun _ _ _ h => h) (Or.inl ⟨by rfl, ?yn17⟩) hH2 ?_
    case yn17 => intro w hSw; obtain ⟨hq0, hq1, hq2, hq3, hq4, hq5, hq6, hq7, hq8, hq9, hq10⟩ := hSw; go_simp; try with_reducible rfl
    try simp only [Act.put, List.setIfInBounds_toArray, List.set_cons_zero, List.set_cons_succ]
    refine takeH (i := 18) (d := 74) (v := ?_) rfl rfl (by kernel_rfl) (by kernel_rfl) (by kernel_rfl) (fun _ _ _ h => h) (Or.inl ⟨by rfl, ?yn18⟩) hH2 ?_
    case yn18 => intro w hSw; obtain ⟨hq0, hq1, hq2, hq3, hq4, hq5, hq6, hq7, hq8, hq9, hq10⟩ := hSw; go_simp; try with_reducible rfl
    try simp only [Act.put, List.setIfInBounds_toArray, List.set_cons_zero, List.set_cons_succ]
    refine takeH (i := 19) (d := 75) (v := ?_) rfl rfl (by kernel_rfl) (by kernel_rfl) (by kernel_rfl) (fun _ _ _ h => h) (Or.inl ⟨by rfl, ?yn19⟩) hH2 ?_
    case yn19 => intro w hSw; obtain ⟨hq0, hq1, hq2, hq3, hq4, hq5, hq6, hq7, hq8, hq9, hq10⟩ := hSw; go_simp; try with_reducible rfl
    try simp only [Act.put, List.setIfInBounds_toArray, List.set_cons_zero, List.set_cons_succ]
    refine takeH (i := 20) (d := 76) (v := ?_) rfl rfl (by kernel_rfl) (by kernel_rfl) (by kernel_rfl) (fun _ _ _ h => h) (Or.inl ⟨by rfl, ?yn20⟩) hH2 ?_
    case yn20 => intro w hSw; obtain ⟨hq0, hq1, hq2, hq3, hq4, hq5, hq6, hq7, hq8, hq9, hq10⟩ := hSw; go_simp; try with_reducible rfl
    try simp only [Act.put, List.setIfInBounds_toArray, List.set_cons_zero, List.set_cons_succ]
    refine takeH (i := 21) (d := 77) (v := ?_) rfl rfl (by kernel_rfl) (by kernel_rfl) (by kernel_rfl) (fun _ _ _ h => h) (Or.inl ⟨by rfl, ?yn21⟩) hH2 ?_
    case yn21 => intro w hSw; obtain ⟨hq0, hq1, hq2, hq3, hq4, hq5, hq6, hq7, hq8, hq9, hq10⟩ := hSw; go_simp; try with_reducible rfl
    try simp only [Act.put, List.setIfInBounds_toArray, List.set_cons_zero, List.set_cons_succ]
    refine takeH (i := 22) (d := 78) (v := ?_) rfl rfl (by kernel_rfl) (by kernel_rfl) (by kernel_rfl) (fun _ _ _ h => h) (Or.inl ⟨by rfl, ?yn22⟩) hH2 ?_
    case yn22 => intro w hSw; obtain ⟨hq0, hq1, hq2, hq3, hq4, hq5, hq6, hq7, hq8, hq9, hq10⟩ := hSw; go_simp; try with_reducible rfl
    try simp only [Act.put, List.setIfInBounds_toArray, List.set_cons_zero, List.set_cons_succ]
    refine takeH (i := 23) (d := 79) (v := ?_) rfl rfl (by kernel_rfl) (by kernel_rfl) (by kernel_rfl) (fun _ _ _ h => h) (Or.inl ⟨by rfl, ?yn23⟩) hH2 ?_
    case yn23 => intro w hSw; obtain ⟨hq0, hq1, hq2, hq3, hq4, hq5, hq6, hq7, hq8, hq9, hq10⟩ := hSw; go_simp; try with_reducible rfl
    try simp only [Act.put, List.setIfInBounds_toArray, List.set_cons_zero, List.set_cons_succ]
    refine takeH (i := 24) (d := 80) (v := ?_) rfl rfl (by kernel_rfl) (by kernel_rfl) (by kernel_rfl) (fun _ _ _ h => h) (Or.inl ⟨by rfl, ?yn24⟩) hH2 ?_
    case yn24 => intro w hSw; obtain ⟨hq0, hq1, hq2, hq3, hq4, hq5, hq6, hq7, hq8, hq9, hq10⟩ := hSw; go_simp; try with_reducible rfl
    try simp only [Act.put, List.setIfInBounds_toArray, List.set_cons_zero, List.set_cons_succ]
    refine takeH (i := 25) (d := 81) (v := ?_) rfl rfl (by kernel_rfl) (by kernel_rfl) (by kernel_rfl) (fun _ _ _ h => h) (Or.inl ⟨by rfl, ?yn25⟩) hH2 ?_
    case yn25 => intro w hSw; obtain ⟨hq0, hq1, hq2, hq3, hq4, hq5, hq6, hq7, hq8, hq9, hq10⟩ := hSw; go_simp; try with_reducible rfl
    try simp only [Act.put, List.setIfInBounds_toArray, List.set_cons_zero, List.set_cons_succ]
    refine takeH (i := 26) (d := 82) (v := ?_) rfl rfl (by kernel_rfl) (by kernel_rfl) (by kernel_rfl) (fun _ _ _ h => h) (Or.inl ⟨by rfl, ?yn26⟩) hH2 ?_
    case yn26 => intro w hSw; obtain ⟨hq0, hq1, hq2, hq3, hq4, hq5, hq6, hq7, hq8, hq9, hq10⟩ := hSw; go_simp; try with_reducible rfl
    try simp only [Act.put, List.setIfInBounds_toArray, List.set_cons_zero, List.set_cons_succ]
    refine takeH (i := 27) (d := 83) (v := ?_) rfl rfl (by kernel_rfl) (by kernel_rfl) (by kernel_rfl) (fun _ _ _ h => h) (Or.inl ⟨by rfl, ?yn27⟩) hH2 ?_
    case yn27 => intro w hSw; obtain ⟨hq0, hq1, hq2, hq3, hq4, hq5, hq6, hq7, hq8, hq9, hq10⟩ := hSw; go_simp; try with_reducible rfl
    try simp only [Act.put, List.setIfInBounds_toArray, List.set_cons_zero, List.set_cons_succ]
    refine takeH (i := 28) (d := 84) (v := ?_) rfl rfl (by kernel_rfl) (by kernel_rfl) (by kernel_rfl) (fun _ _ _ h => h) (Or.inl ⟨by rfl, ?yn28⟩) hH2 ?_
    case yn28 => intro w hSw; obtain ⟨hq0, hq1, hq2, hq3, hq4, hq5, hq6, hq7, hq8, hq9, hq10⟩ := hSw; go_simp; try with_reducible rfl
    try simp only [Act.put, List.setIfInBounds_toArray, List.set_cons_zero, List.set_cons_succ]
    refine takeH (i := 29) (d := 85) (v := ?_) rfl rfl (by kernel_rfl) (by kernel_rfl) (by kernel_rfl) (fun _ _ _ h => h) (Or.inl ⟨by rfl, ?yn29⟩) hH2 ?_
    case yn29 => intro w hSw; obtain ⟨hq0, hq1, hq2, hq3, hq4, hq5, hq6, hq7, hq8, hq9, hq10⟩ := hSw; go_simp; try with_reducible rfl
    try simp only [Act.put, List.setIfInBounds_toArray, List.set_cons_zero, List.set_cons_succ]
    refine takeH (i := 30) (d := 86) (v := ?_) rfl rfl (by kernel_rfl) (by kernel_rfl) (by kernel_rfl) (fun _ _ _ h => h) (Or.inl ⟨by rfl, ?yn30⟩) hH2 ?_
    case yn30 => intro w hSw; obtain ⟨hq0, hq1, hq2, hq3, hq4, hq5, hq6, hq7, hq8, hq9, hq10⟩ := hSw; go_simp; try with_reducible rfl
    try simp only [Act.put, List.setIfInBounds_toArray, List.set_cons_zero, List.set_cons_succ]
    refine takeH (i := 31) (d := 87) (v := ?_) rfl rfl (by kernel_rfl) (by kernel_rfl) (by kernel_rfl) (fun _ _ _ h => h) (Or.inl ⟨by rfl, ?yn31⟩) hH2 ?_
    case yn31 => intro w hSw; obtain ⟨hq0, hq1, hq2, hq3, hq4, hq5, hq6, hq7, hq8, hq9, hq10⟩ := hSw; go_simp; try with_reducible rfl
    try simp only [Act.put, List.setIfInBounds_toArray, List.set_cons_zero, List.set_cons_succ]
    refine takeH (i := 32) (d := 88) (v := ?_) rfl rfl (by kernel_rfl) (by kernel_rfl) (by kernel_rfl) (fun _ _ _ h => h) (Or.inl ⟨by rfl, ?yn32⟩) hH2 ?_
    case yn32 => intro w hSw; obtain ⟨hq0, hq1, hq2, hq3, hq4, hq5, hq6, hq7, hq8, hq9, hq10⟩ := hSw; go_simp; try with_reducible rfl
    try simp only [Act.put, List.setIfInBounds_toArray, List.set_cons_zero, List.set_cons_succ]
    refine takeH (i := 33) (d := 89) (v := ?_) rfl rfl (by kernel_rfl) (by kernel_rfl) (by kernel_rfl) (fun _ _ _ h => h) (Or.inl ⟨by rfl, ?yn33⟩) hH2 ?_
    case yn33 => intro w hSw; obtain ⟨hq0, hq1, hq2, hq3, hq4, hq5, hq6, hq7, hq8, hq9, hq10⟩ := hSw; go_simp; try with_reducible rfl
    try simp only [Act.put, List.setIfInBounds_toArray, List.set_cons_zero, List.set_cons_succ]
    refine takeH (i := 34) (d := 90) (v := ?_) rfl rfl (by kernel_rfl) (by kernel_rfl) (by kernel_rfl) (fun _ _ _ h => h) (Or.inl ⟨by rfl, ?yn34⟩) hH2 ?_
    case yn34 => intro w hSw; obtain ⟨hq0, hq1, hq2, hq3, hq4, hq5, hq6, hq7, hq8, hq9, hq10⟩ := hSw; go_simp; try with_reducible rfl
    try simp only [Act.put, List.setIfInBounds_toArray, List.set_cons_zero, List.set_cons_succ]
    refine takeH (i := 35) (d := 91) (v := ?_) rfl rfl (by kernel_rfl) (by kernel_rfl) (by kernel_rfl) (fun _ _ _ h => h) (Or.inl ⟨by rfl, ?yn35⟩) hH2 ?_
    case yn35 => intro w hSw; obtain ⟨hq0, hq1, hq2, hq3, hq4, hq5, hq6, hq7, hq8, hq9, hq10⟩ := hSw; go_simp; try with_reducible rfl
    try simp only [Act.put, List.setIfInBounds_toArray, List.set_cons_zero, List.set_cons_succ]
    refine takeH (i := 36) (d := 92) (v := ?_) rfl rfl (by kernel_rfl) (by kernel_rfl) (by kernel_rfl) (fun _ _ _ h => h) (Or.inl ⟨by rfl, ?yn36⟩) hH2 ?_
    case yn36 => intro w hSw; obtain ⟨hq0, hq1, hq2, hq3, hq4, hq5, hq6, hq7, hq8, hq9, hq10⟩ := hSw; go_simp; try with_reducible rfl
    try simp only [Act.put, List.setIfInBounds_toArray, List.set_cons_zero, List.set_cons_succ]
    refine takeH (i := 37) (d := 93) (v := ?_) rfl rfl (by kernel_rfl) (by kernel_rfl) (by kernel_rfl) (fun _ _ _ h => h) (Or.inl ⟨by rfl, ?yn37⟩) hH2 ?_
    case yn37 => intro w hSw; obtain ⟨hq0, hq1, hq2, hq3, hq4, hq5, hq6, hq7, hq8, hq9, hq10⟩ := hSw; go_simp; try with_reducible rfl
    try simp only [Act.put, List.setIfInBounds_toArray, List.set_cons_zero, List.set_cons_succ]
    refine takeH (i := 38) (d := 94) (v := ?_) rfl rfl (by kernel_rfl) (by kernel_rfl) (by kernel_rfl) (fun _ _ _ h => h) (Or.inl ⟨by rfl, ?yn38⟩) hH2 ?_
    case yn38 => intro w hSw; obtain ⟨hq0, hq1, hq2, hq3, hq4, hq5, hq6, hq7, hq8, hq9, hq10⟩ := hSw; go_simp; try with_reducible rfl
    try simp only [Act.put, List.setIfInBounds_toArray, List.set_cons_zero, List.set_cons_succ]
    refine takeH (i := 39) (d := 95) (v := ?_) rfl rfl (by kernel_rfl) (by kernel_rfl) (by kernel_rfl) (fun _ _ _ h => h) (Or.inl ⟨by rfl, ?yn39⟩) hH2 ?_
    case yn39 => intro w hSw; obtain ⟨hq0, hq1, hq2, hq3, hq4, hq5, hq6, hq7, hq8, hq9, hq10⟩ := hSw; go_simp; try with_reducible rfl
    try simp only [Act.put, List.setIfInBounds_toArray, List.set_cons_zero, List.set_cons_succ]
    refine takeH (i := 40) (d := 96) (v := undef) rfl rfl (by kernel_rfl) (by kernel_rfl) (by kernel_rfl) (fun _ _ _ h => h) (Or.inr ⟨by rfl, rfl⟩) hH2 ?_
    try simp only [Act.put, List.setIfInBounds_toArray, List.set_cons_zero, List.set_cons_succ]
    refine takeH (i := 41) (d := 97) (v := undef) rfl rfl (by kernel_rfl) (by kernel_rfl) (by kernel_rfl) (fun _ _ _ h => h) (Or.inr ⟨by rfl, rfl⟩) hH2 ?_
    try simp only [Act.put, List.setIfInBounds_toArray, List.set_cons_zero, List.set_cons_succ]
    refine takeH (i := 42) (d := 98) (v := ?_) rfl rfl (by kernel_rfl) (by kernel_rfl) (by kernel_rfl) (fun _ _ _ h => h) (Or.inl ⟨by rfl, ?yn42⟩) hH2 ?_
    case yn42 => intro w hSw; obtain ⟨hq0, hq1, hq2, hq3, hq4, hq5, hq6, hq7, hq8, hq9, hq10⟩ := hSw; go_simp; try with_reducible rfl
    try simp only [Act.put, List.setIfInBounds_toArray, List.set_cons_zero, List.set_cons_succ]
    refine takeH (i := 43) (d := 99) (v := ?_) rfl rfl (by kernel_rfl) (by kernel_rfl) (by kernel_rfl) (fun _ _ _ h => h) (Or.inl ⟨by rfl, ?yn43⟩) hH2 ?_
    case yn43 => intro w hSw; obtain ⟨hq0, hq1, hq2, hq3, hq4, hq5, hq6, hq7, hq8, hq9, hq10⟩ := hSw; go_simp; try with_reducible rfl
    try simp only [Act.put, List.setIfInBounds_toArray, List.set_cons_zero, List.set_cons_succ]
    refine wpAnyH_done (by kernel_rfl) ?_ _
    clear HS9
    have HX10 := Lib.hid (HX9.out.later hH2.2.2.2.2.2.2.2.2.2.2)
    have HV10 := Lib.hid (HV9.out.below hH2.2.2.2.2.2.2.2.2.2.2)
    have HB10 := Lib.hid (HB9.out.later hH2.2.2.2.2.2.2.2.2.2.2)
    have HZ10 := Lib.hid (HZ9.out.below hH2.2.2.2.2.2.2.2.2.2.2)
    have HY10 := Lib.hid (fun e => (HY9.out e).1.below hH2.2.2.2.2.2.2.2.2.2.2)
    clear hH2 HV9 HB9 HZ9
    by_cases hbf : bf = true
    · subst hbf
      have HEQ := Lib.hid (eq_any _ aB _ _ y (HY10.out (by first | exact rfl | exact trivial)) (bare_toJ _) HZ10.out (HY9.out (by first | exact rfl | exact trivial)).2)
      unfold EqEnd at HEQ
      obtain ⟨d0, d1, d2, d3, d4⟩ := HB10.out
      go_wp2_with fail
      refine HEQ.out.mono ?_
      rintro e w11 ⟨⟨b, rfl, hb1⟩, hb2⟩
      have hbt : b = true := hb1.2 (by first | exact rfl | exact trivial)
      subst hbt
      have HX11 := Lib.hid (HX10.out.later hb2)
      have HV11 := Lib.hid (HV10.out.below hb2)
      clear hb1 hb2 d0 d1 d2 d3 d4 HX10 HV10 HB10 HZ10 HY10 HY9 HEQ
      obtain ⟨⟨b0, b1, b2, b3, b4⟩, ⟨c0, c1, c2, c3, c4⟩, hbw⟩ := HX11.out
      clear hbw
      go_upto_region 13 with fail
      have HS011 : w11.drew.cell? ⟨w.heap.size, 0, none⟩ = some (.int .u8 4) ∧ w11.drew.cell? ⟨w.heap.size, 1, none⟩ = some (.int .i64 n) ∧ w11.drew.cell? ⟨w.heap.size, 2, none⟩ = some (.string t) ∧ w11.drew.cell? ⟨w.heap.size, 3, none⟩ = some (nv) ∧ w11.drew.cell? ⟨w.heap.size, 4, none⟩ = some (kv) ∧ w11.drew.cell? ⟨w.heap.size + 1, 0, none⟩ = some (.int .u8 k') ∧ w11.drew.cell? ⟨w.heap.size + 1, 1, none⟩ = some (.int .i64 n') ∧ w11.drew.cell? ⟨w.heap.size + 1, 2, none⟩ = some (.string s') ∧ w11.drew.cell? ⟨w.heap.size + 1, 3, none⟩ = some (nv') ∧ w11.drew.cell? ⟨w.heap.size + 1, 4, none⟩ = some (kv') ∧ Below w11.heap.size w11 w11.drew := ⟨b0, b1, b2, b3, b4, c0, c1, c2, c3, c4, (Below.refl _ w11).drew⟩
      clear b0 b1 b2 b3 b4 c0 c1 c2 c3 c4
      refine wp_region_held_drew (S := fun w' => w'.cell? ⟨w.heap.size, 0, none⟩ = some (.int .u8 4) ∧ w'.cell? ⟨w.heap.size, 1, none⟩ = some (.int .i64 n) ∧ w'.cell? ⟨w.heap.size, 2, none⟩ = some (.string t) ∧ w'.cell? ⟨w.heap.size, 3, none⟩ = some (nv) ∧ w'.cell? ⟨w.heap.size, 4, none⟩ = some (kv) ∧ w'.cell? ⟨w.heap.size + 1, 0, none⟩ = some (.int .u8 k') ∧ w'.cell? ⟨w.heap.size + 1, 1, none⟩ = some (.int .i64 n') ∧ w'.cell? ⟨w.heap.size + 1, 2, none⟩ = some (.string s') ∧ w'.cell? ⟨w.heap.size + 1, 3, none⟩ = some (nv') ∧ w'.cell? ⟨w.heap.size + 1, 4, none⟩ = some (kv') ∧ Below w11.heap.size w11 w') (by kernel_rfl) HS011 (fun hH0 => ?_)
      refine takeH (i := 0) (d := 115) (v := ?_) rfl rfl (by kernel_rfl) (by kernel_rfl) (by kernel_rfl) (fun _ _ _ h => h) (Or.inl ⟨by rfl, ?yt110⟩) hH0 ?_
      case yt110 => intro w hSw; obtain ⟨hq0, hq1, hq2, hq3, hq4, hq5, hq6, hq7, hq8, hq9, hq10⟩ := hSw; go_simp; try with_reducible rfl
      try simp only [Act.put, List.setIfInBounds_toArray, List.set_cons_zero, List.set_cons_succ]
      refine takeH (i := 1) (d := 116) (v := ?_) rfl rfl (by kernel_rfl) (by kernel_rfl) (by kernel_rfl) (fun _ _ _ h => h) (Or.inl ⟨by rfl, ?yt111⟩) hH0 ?_
      case yt111 => intro w hSw; obtain ⟨hq0, hq1, hq2, hq3, hq4, hq5, hq6, hq7, hq8, hq9, hq10⟩ := hSw; go_simp; try with_reducible rfl
      try simp only [Act.put, List.setIfInBounds_toArray, List.set_cons_zero, List.set_cons_succ]
      refine takeH (i := 4) (d := 119) (v := ?_) rfl rfl (by kernel_rfl) (by kernel_rfl) (by kernel_rfl) (fun _ _ _ h => h) (Or.inl ⟨by rfl, ?yt114⟩) hH0 ?_
      case yt114 => intro w hSw; obtain ⟨hq0, hq1, hq2, hq3, hq4, hq5, hq6, hq7, hq8, hq9, hq10⟩ := hSw; go_simp; try with_reducible rfl
      try simp only [Act.put, List.setIfInBounds_toArray, List.set_cons_zero, List.set_cons_succ]
      refine takeH (i := 5) (d := 120) (v := ?_) rfl rfl (by kernel_rfl) (by kernel_rfl) (by kernel_rfl) (fun _ _ _ h => h) (Or.inl ⟨by rfl, ?yt115⟩) hH0 ?_
      case yt115 => intro w hSw; obtain ⟨hq0, hq1, hq2, hq3, hq4, hq5, hq6, hq7, hq8, hq9, hq10⟩ := hSw; go_simp; try with_reducible rfl
      try simp only [Act.put, List.setIfInBounds_toArray, List.set_cons_zero, List.set_cons_succ]
      refine wpAnyH_ready (rs := [2]) (by kernel_rfl) (by simp) ?_
      refine AllReadyH.cons rfl (fun K hK => ?_) AllReadyH.nil
      go_simp
      refine (HO2.out _ (HX11.out.2.2.trans (hH0.2.2.2.2.2.2.2.2.2.2.mono HX11.out.2.2.size))).mono ?_
      rintro e w' ⟨⟨x2, rfl, hx2⟩, hb⟩
      go_wp2_with fail
      refine hK.out _ _ (⟨cell_kept hb hH0.1, cell_kept hb hH0.2.1, cell_kept hb hH0.2.2.1, cell_kept hb hH0.2.2.2.1, cell_kept hb hH0.2.2.2.2.1, cell_kept hb hH0.2.2.2.2.2.1, cell_kept hb hH0.2.2.2.2.2.2.1, cell_kept hb hH0.2.2.2.2.2.2.2.1, cell_kept hb hH0.2.2.2.2.2.2.2.2.1, cell_kept hb hH0.2.2.2.2.2.2.2.2.2.1, hH0.2.2.2.2.2.2.2.2.2.2.trans (hb.mono hH0.2.2.2.2.2.2.2.2.2.2.size)⟩) (fun hH1 => ?_)
      clear hK K hb hH0
      try simp only [Act.put, List.setIfInBounds_toArray, List.set_cons_zero, List.set_cons_succ]
      have HX2V := Lib.hid (hx2.mono (S' := aB) (fun _ _ => trivial))
      clear hx2
      refine wpAnyH_ready (rs := [3]) (by kernel_rfl) (by simp) ?_
      refine AllReadyH.cons rfl (fun K hK => ?_) AllReadyH.nil
      go_simp
      refine (HSM.out _ _ x2 (HV11.out.below hH1.2.2.2.2.2.2.2.2.2.2) HX2V.out).mono ?_
      rintro e w' ⟨⟨r, rfl, hr⟩, hb⟩
      go_wp2_with fail
      refine hK.out _ _ (⟨cell_kept hb hH1.1, cell_kept hb hH1.2.1, cell_kept hb hH1.2.2.1, cell_kept hb hH1.2.2.2.1, cell_kept hb hH1.2.2.2.2.1, cell_kept hb hH1.2.2.2.2.2.1, cell_kept hb hH1.2.2.2.2.2.2.1, cell_kept hb hH1.2.2.2.2.2.2.2.1, cell_kept hb hH1.2.2.2.2.2.2.2.2.1, cell_kept hb hH1.2.2.2.2.2.2.2.2.2.1, hH1.2.2.2.2.2.2.2.2.2.2.trans (hb.mono hH1.2.2.2.2.2.2.2.2.2.2.size)⟩) (fun hH2 => ?_)
      clear hK K hb hH1
      try simp only [Act.put, List.setIfInBounds_toArray, List.set_cons_zero, List.set_cons_succ]
      have hrs : r = sv := Bool.eq_iff_iff.2 (hr.trans HSI.out)
      subst hrs
      clear hr HX2V
      refine wpAnyH_ready (rs := [6]) (by kernel_rfl) (by simp) ?_
      refine AllReadyH.cons rfl (fun K hK => ?_) AllReadyH.nil
      go_simp
      refine (HRS.out _ (HX11.out.2.2.trans (hH2.2.2.2.2.2.2.2.2.2.2.mono HX11.out.2.2.size))).mono ?_
      rintro e w' ⟨rfl, hb⟩
      go_wp2_with fail
      refine hK.out _ _ (⟨cell_kept hb hH2.1, cell_kept hb hH2.2.1, cell_kept hb hH2.2.2.1, cell_kept hb hH2.2.2.2.1, cell_kept hb hH2.2.2.2.2.1, cell_kept hb hH2.2.2.2.2.2.1, cell_kept hb hH2.2.2.2.2.2.2.1, cell_kept hb hH2.2.2.2.2.2.2.2.1, cell_kept hb hH2.2.2.2.2.2.2.2.2.1, cell_kept hb hH2.2.2.2.2.2.2.2.2.2.1, hH2.2.2.2.2.2.2.2.2.2.2.trans (hb.mono hH2.2.2.2.2.2.2.2.2.2.2.size)⟩) (fun hH3 => ?_)
      clear hK K hb hH2
      try simp only [Act.put, List.setIfInBounds_toArray, List.set_cons_zero, List.set_cons_succ]
      refine takeH (i := 7) (d := 122) (v := ?_) rfl rfl (by kernel_rfl) (by kernel_rfl) (by kernel_rfl) (fun _ _ _ h => h) (Or.inl ⟨by rfl, ?yt117⟩) hH3 ?_
      case yt117 => intro w hSw; obtain ⟨hq0, hq1, hq2, hq3, hq4, hq5, hq6, hq7, hq8, hq9, hq10⟩ := hSw; go_simp; try with_reducible rfl
      try simp only [Act.put, List.setIfInBounds_toArray, List.set_cons_zero, List.set_cons_succ]
      refine takeH (i := 8) (d := 123) (v := ?_) rfl rfl (by kernel_rfl) (by kernel_rfl) (by kernel_rfl) (fun _ _ _ h => h) (Or.inl ⟨by rfl, ?yt118⟩) hH3 ?_
      case yt118 => intro w hSw; obtain ⟨hq0, hq1, hq2, hq3, hq4, hq5, hq6, hq7, hq8, hq9, hq10⟩ := hSw; go_simp; try with_reducible rfl
      try simp only [Act.put, List.setIfInBounds_toArray, List.set_cons_zero, List.set_cons_succ]
      refine takeH (i := 9) (d := 124) (v := ?_) rfl rfl (by kernel_rfl) (by kernel_rfl) (by kernel_rfl) (fun _ _ _ h => h) (Or.inl ⟨by rfl, ?yt119⟩) hH3 ?_
      case yt119 => intro w hSw; obtain ⟨hq0, hq1, hq2, hq3, hq4, hq5, hq6, hq7, hq8, hq9, hq10⟩ := hSw; go_simp; try with_reducible rfl
      try simp only [Act.put, List.setIfInBounds_toArray, List.set_cons_zero, List.set_cons_succ]
      refine takeH (i := 10) (d := 125) (v := ?_) rfl rfl (by kernel_rfl) (by kernel_rfl) (by kernel_rfl) (fun _ _ _ h => h) (Or.inl ⟨by rfl, ?yt1110⟩) hH3 ?_
      case yt1110 => intro w hSw; obtain ⟨hq0, hq1, hq2, hq3, hq4, hq5, hq6, hq7, hq8, hq9, hq10⟩ := hSw; go_simp; try with_reducible rfl
      try simp only [Act.put, List.setIfInBounds_toArray, List.set_cons_zero, List.set_cons_succ]
      refine takeH (i := 11) (d := 126) (v := ?_) rfl rfl (by kernel_rfl) (by kernel_rfl) (by kernel_rfl) (fun _ _ _ h => h) (Or.inl ⟨by rfl, ?yt1111⟩) hH3 ?_
      case yt1111 => intro w hSw; obtain ⟨hq0, hq1, hq2, hq3, hq4, hq5, hq6, hq7, hq8, hq9, hq10⟩ := hSw; go_simp; try with_reducible rfl
      try simp only [Act.put, List.setIfInBounds_toArray, List.set_cons_zero, List.set_cons_succ]
      refine takeH (i := 12) (d := 127) (v := ?_) rfl rfl (by kernel_rfl) (by kernel_rfl) (by kernel_rfl) (fun _ _ _ h => h) (Or.inl ⟨by rfl, ?yt1112⟩) hH3 ?_
      case yt1112 => intro w hSw; obtain ⟨hq0, hq1, hq2, hq3, hq4, hq5, hq6, hq7, hq8, hq9, hq10⟩ := hSw; go_simp; try with_reducible rfl
      try simp only [Act.put, List.setIfInBounds_toArray, List.set_cons_zero, List.set_cons_succ]
      refine takeH (i := 13) (d := 128) (v := ?_) rfl rfl (by kernel_rfl) (by kernel_rfl) (by kernel_rfl) (fun _ _ _ h => h) (Or.inl ⟨by rfl, ?yt1113⟩) hH3 ?_
      case yt1113 => intro w hSw; obtain ⟨hq0, hq1, hq2, hq3, hq4, hq5, hq6, hq7, hq8, hq9, hq10⟩ := hSw; go_simp; try with_reducible rfl
      try simp only [Act.put, List.setIfInBounds_toArray, List.set_cons_zero, List.set_cons_succ]
      refine takeH (i := 15) (d := 130) (v := ?_) rfl rfl (by kernel_rfl) (by kernel_rfl) (by kernel_rfl) (fun _ _ _ h => h) (Or.inl ⟨by rfl, ?yt1115⟩) hH3 ?_
      case yt1115 => intro w hSw; obtain ⟨hq0, hq1, hq2, hq3, hq4, hq5, hq6, hq7, hq8, hq9, hq10⟩ := hSw; go_simp; try with_reducible rfl
      try simp only [Act.put, List.setIfInBounds_toArray, List.set_cons_zero, List.set_cons_succ]
      refine takeH (i := 16) (d := 131) (v := ?_) rfl rfl (by kernel_rfl) (by kernel_rfl) (by kernel_rfl) (fun _ _ _ h => h) (Or.inl ⟨by rfl, ?yt1116⟩) hH3 ?_
      case yt1116 => intro w hSw; obtain ⟨hq0, hq1, hq2, hq3, hq4, hq5, hq6, hq7, hq8, hq9, hq10⟩ := hSw; go_simp; try with_reducible rfl
      try simp only [Act.put, List.setIfInBounds_toArray, List.set_cons_zero, List.set_cons_succ]
      refine wpAnyH_ready (rs := [14]) (by kernel_rfl) (by simp) ?_
      refine AllReadyH.cons rfl (fun K hK => ?_) AllReadyH.nil
      go_simp
      refine (HMT.out _).mono ?_
      rintro e w' ⟨rfl, hb⟩
      go_wp2_with fail
      refine hK.out _ _ (⟨cell_kept hb hH3.1, cell_kept hb hH3.2.1, cell_kept hb hH3.2.2.1, cell_kept hb hH3.2.2.2.1, cell_kept hb hH3.2.2.2.2.1, cell_kept hb hH3.2.2.2.2.2.1, cell_kept hb hH3.2.2.2.2.2.2.1, cell_kept hb hH3.2.2.2.2.2.2.2.1, cell_kept hb hH3.2.2.2.2.2.2.2.2.1, cell_kept hb hH3.2.2.2.2.2.2.2.2.2.1, hH3.2.2.2.2.2.2.2.2.2.2.trans (hb.mono hH3.2.2.2.2.2.2.2.2.2.2.size)⟩) (fun hH4 => ?_)
      clear hK K hb hH3
      try simp only [Act.put, List.setIfInBounds_toArray, List.set_cons_zero, List.set_cons_succ]
      refine takeH (i := 17) (d := 132) (v := ?_) rfl rfl (by kernel_rfl) (by kernel_rfl) (by kernel_rfl) (fun _ _ _ h => h) (Or.inl ⟨by rfl, ?yt1117⟩) hH4 ?_
      case yt1117 => intro w hSw; obtain ⟨hq0, hq1, hq2, hq3, hq4, hq5, hq6, hq7, hq8, hq9, hq10⟩ := hSw; go_simp; try with_reducible rfl
      try simp only [Act.put, List.setIfInBounds_toArray, List.set_cons_zero, List.set_cons_succ]
      refine takeH (i := 18) (d := 133) (v := ?_) rfl rfl (by kernel_rfl) (by kernel_rfl) (by kernel_rfl) (fun _ _ _ h => h) (Or.inl ⟨by rfl, ?yt1118⟩) hH4 ?_
      case yt1118 => intro w hSw; obtain ⟨hq0, hq1, hq2, hq3, hq4, hq5, hq6, hq7, hq8, hq9, hq10⟩ := hSw; go_simp; try with_reducible rfl
      try simp only [Act.put, List.setIfInBounds_toArray, List.set_cons_zero, List.set_cons_succ]
      refine takeH (i := 19) (d := 134) (v := ?_) rfl rfl (by kernel_rfl) (by kernel_rfl) (by kernel_rfl) (fun _ _ _ h => h) (Or.inl ⟨by rfl, ?yt1119⟩) hH4 ?_
      case yt1119 => intro w hSw; obtain ⟨hq0, hq1, hq2, hq3, hq4, hq5, hq6, hq7, hq8, hq9, hq10⟩ := hSw; go_simp; try with_reducible rfl
      try simp only [Act.put, List.setIfInBounds_toArray, List.set_cons_zero, List.set_cons_succ]
      refine takeH (i := 20) (d := 135) (v := ?_) rfl rfl (by kernel_rfl) (by kernel_rfl) (by kernel_rfl) (fun _ _ _ h => h) (Or.inl ⟨by rfl, ?yt1120⟩) hH4 ?_
      case yt1120 => intro w hSw; obtain ⟨hq0, hq1, hq2, hq3, hq4, hq5, hq6, hq7, hq8, hq9, hq10⟩ := hSw; go_simp; try with_reducible rfl
      try simp only [Act.put, List.setIfInBounds_toArray, List.set_cons_zero, List.set_cons_succ]
      refine wpAnyH_ready (rs := [21]) (by kernel_rfl) (by simp) ?_
      refine AllReadyH.cons rfl (fun K hK => ?_) AllReadyH.nil
      go_simp
      refine (HA.out _ (HX11.out.2.2.trans (hH4.2.2.2.2.2.2.2.2.2.2.mono HX11.out.2.2.size))).mono ?_
      rintro e w' ⟨rfl, hb⟩
      go_wp2_with fail
      refine hK.out _ _ (⟨cell_kept hb hH4.1, cell_kept hb hH4.2.1, cell_kept hb hH4.2.2.1, cell_kept hb hH4.2.2.2.1, cell_kept hb hH4.2.2.2.2.1, cell_kept hb hH4.2.2.2.2.2.1, cell_kept hb hH4.2.2.2.2.2.2.1, cell_kept hb hH4.2.2.2.2.2.2.2.1, cell_kept hb hH4.2.2.2.2.2.2.2.2.1, cell_kept hb hH4.2.2.2.2.2.2.2.2.2.1, hH4.2.2.2.2.2.2.2.2.2.2.trans (hb.mono hH4.2.2.2.2.2.2.2.2.2.2.size)⟩) (fun hH5 => ?_)
      clear hK K hb hH4
      try simp only [Act.put, List.setIfInBounds_toArray, List.set_cons_zero, List.set_cons_succ]
      refine takeH (i := 22) (d := 137) (v := ?_) rfl rfl (by kernel_rfl) (by kernel_rfl) (by kernel_rfl) (fun _ _ _ h => h) (Or.inl ⟨by rfl, ?yt1122⟩) hH5 ?_
      case yt1122 => intro w hSw; obtain ⟨hq0, hq1, hq2, hq3, hq4, hq5, hq6, hq7, hq8, hq9, hq10⟩ := hSw; go_simp; try with_reducible rfl
      try simp only [Act.put, List.setIfInBounds_toArray, List.set_cons_zero, List.set_cons_succ]
      refine takeH (i := 23) (d := 6) (v := ?_) rfl rfl (by kernel_rfl) (by kernel_rfl) (by kernel_rfl) (fun _ _ _ h => h) (Or.inl ⟨by rfl, ?yt1123⟩) hH5 ?_
      case yt1123 => intro w hSw; obtain ⟨hq0, hq1, hq2, hq3, hq4, hq5, hq6, hq7, hq8, hq9, hq10⟩ := hSw; go_simp; try with_reducible rfl
      try simp only [Act.put, List.setIfInBounds_toArray, List.set_cons_zero, List.set_cons_succ]
      refine wpAnyH_done (by kernel_rfl) ?_ _
      have HFIN := Lib.hid hH5
      clear hH5
      go_wp2_with fail
      go_ret
      exact ⟨rfl, HX11.out.2.2.trans (HFIN.out.2.2.2.2.2.2.2.2.2.2.mono HX11.out.2.2.size)⟩
    · have hbf : bf = false := by simpa using hbf
      obtain rfl := HYN.out hbf
      subst hbf
      have HX11 := HX10
      have HV11 := HV10
      clear HX10 HV10 HB10 HZ10 HY10 HY9
      obtain ⟨⟨b0, b1, b2, b3, b4⟩, ⟨c0, c1, c2, c3, c4⟩, hbw⟩ := HX11.out
      clear hbw
      go_upto_region 13 with fail
      have HS011 : w10.drew.cell? ⟨w.heap.size, 0, none⟩ = some (.int .u8 4) ∧ w10.drew.cell? ⟨w.heap.size, 1, none⟩ = some (.int .i64 n) ∧ w10.drew.cell? ⟨w.heap.size, 2, none⟩ = some (.string t) ∧ w10.drew.cell? ⟨w.heap.size, 3, none⟩ = some (nv) ∧ w10.drew.cell? ⟨w.heap.size, 4, none⟩ = some (kv) ∧ w10.drew.cell? ⟨w.heap.size + 1, 0, none⟩ = some (.int .u8 k') ∧ w10.drew.cell? ⟨w.heap.size + 1, 1, none⟩ = some (.int .i64 n') ∧ w10.drew.cell? ⟨w.heap.size + 1, 2, none⟩ = some (.string s') ∧ w10.drew.cell? ⟨w.heap.size + 1, 3, none⟩ = some (nv') ∧ w10.drew.cell? ⟨w.heap.size + 1, 4, none⟩ = some (kv') ∧ Below w10.heap.size w10 w10.drew := ⟨b0, b1, b2, b3, b4, c0, c1, c2, c3, c4, (Below.refl _ w10).drew⟩
      clear b0 b1 b2 b3 b4 c0 c1 c2 c3 c4
      refine wp_region_held_drew (S := fun w' => w'.cell? ⟨w.heap.size, 0, none⟩ = some (.int .u8 4) ∧ w'.cell? ⟨w.heap.size, 1, none⟩ = some (.int .i64 n) ∧ w'.cell? ⟨w.heap.size, 2, none⟩ = some (.string t) ∧ w'.cell? ⟨w.heap.size, 3, none⟩ = some (nv) ∧ w'.cell? ⟨w.heap.size, 4, none⟩ = some (kv) ∧ w'.cell? ⟨w.heap.size + 1, 0, none⟩ = some (.int .u8 k') ∧ w'.cell? ⟨w.heap.size + 1, 1, none⟩ = some (.int .i64 n') ∧ w'.cell? ⟨w.heap.size + 1, 2, none⟩ = some (.string s') ∧ w'.cell? ⟨w.heap.size + 1, 3, none⟩ = some (nv') ∧ w'.cell? ⟨w.heap.size + 1, 4, none⟩ = some (kv') ∧ Below w10.heap.size w10 w') (by kernel_rfl) HS011 (fun hH0 => ?_)
      refine takeH (i := 0) (d := 115) (v := ?_) rfl rfl (by kernel_rfl) (by kernel_rfl) (by kernel_rfl) (fun _ _ _ h => h) (Or.inl ⟨by rfl, ?yt110⟩) hH0 ?_
      case yt110 => intro w hSw; obtain ⟨hq0, hq1, hq2, hq3, hq4, hq5, hq6, hq7, hq8, hq9, hq10⟩ := hSw; go_simp; try with_reducible rfl
      try simp only [Act.put, List.setIfInBounds_toArray, List.set_cons_zero, List.set_cons_succ]
      refine takeH (i := 1) (d := 116) (v := ?_) rfl rfl (by kernel_rfl) (by kernel_rfl) (by kernel_rfl) (fun _ _ _ h => h) (Or.inl ⟨by rfl, ?yt111⟩) hH0 ?_
      case yt111 => intro w hSw; obtain ⟨hq0, hq1, hq2, hq3, hq4, hq5, hq6, hq7, hq8, hq9, hq10⟩ := hSw; go_simp; try with_reducible rfl
      try simp only [Act.put, List.setIfInBounds_toArray, List.set_cons_zero, List.set_cons_succ]
      refine takeH (i := 4) (d := 119) (v := ?_) rfl rfl (by kernel_rfl) (by kernel_rfl) (by kernel_rfl) (fun _ _ _ h => h) (Or.inl ⟨by rfl, ?yt114⟩) hH0 ?_
      case yt114 => intro w hSw; obtain ⟨hq0, hq1, hq2, hq3, hq4, hq5, hq6, hq7, hq8, hq9, hq10⟩ := hSw; go_simp; try with_reducible rfl
      try simp only [Act.put, List.setIfInBounds_toArray, List.set_cons_zero, List.set_cons_succ]
      refine takeH (i := 5) (d := 120) (v := ?_) rfl rfl (by kernel_rfl) (by kernel_rfl) (by kernel_rfl) (fun _ _ _ h => h) (Or.inl ⟨by rfl, ?yt115⟩) hH0 ?_
      case yt115 => intro w hSw; obtain ⟨hq0, hq1, hq2, hq3, hq4, hq5, hq6, hq7, hq8, hq9, hq10⟩ := hSw; go_simp; try with_reducible rfl
      try simp only [Act.put, List.setIfInBounds_toArray, List.set_cons_zero, List.set_cons_succ]
      refine wpAnyH_ready (rs := [2]) (by kernel_rfl) (by simp) ?_
      refine AllReadyH.cons rfl (fun K hK => ?_) AllReadyH.nil
      go_simp
      refine (HO2.out _ (HX11.out.2.2.trans (hH0.2.2.2.2.2.2.2.2.2.2.mono HX11.out.2.2.size))).mono ?_
      rintro e w' ⟨⟨x2, rfl, hx2⟩, hb⟩
      go_wp2_with fail
      refine hK.out _ _ (⟨cell_kept hb hH0.1, cell_kept hb hH0.2.1, cell_kept hb hH0.2.2.1, cell_kept hb hH0.2.2.2.1, cell_kept hb hH0.2.2.2.2.1, cell_kept hb hH0.2.2.2.2.2.1, cell_kept hb hH0.2.2.2.2.2.2.1, cell_kept hb hH0.2.2.2.2.2.2.2.1, cell_kept hb hH0.2.2.2.2.2.2.2.2.1, cell_kept hb hH0.2.2.2.2.2.2.2.2.2.1, hH0.2.2.2.2.2.2.2.2.2.2.trans (hb.mono hH0.2.2.2.2.2.2.2.2.2.2.size)⟩) (fun hH1 => ?_)
      clear hK K hb hH0
      try simp only [Act.put, List.setIfInBounds_toArray, List.set_cons_zero, List.set_cons_succ]
      have HX2V := Lib.hid (hx2.mono (S' := aB) (fun _ _ => trivial))
      clear hx2
      refine wpAnyH_ready (rs := [3]) (by kernel_rfl) (by simp) ?_
      refine AllReadyH.cons rfl (fun K hK => ?_) AllReadyH.nil
      go_simp
      refine (HSM.out _ _ x2 (HV11.out.below hH1.2.2.2.2.2.2.2.2.2.2) HX2V.out).mono ?_
      rintro e w' ⟨⟨r, rfl, hr⟩, hb⟩
      go_wp2_with fail
      refine hK.out _ _ (⟨cell_kept hb hH1.1, cell_kept hb hH1.2.1, cell_kept hb hH1.2.2.1, cell_kept hb hH1.2.2.2.1, cell_kept hb hH1.2.2.2.2.1, cell_kept hb hH1.2.2.2.2.2.1, cell_kept hb hH1.2.2.2.2.2.2.1, cell_kept hb hH1.2.2.2.2.2.2.2.1, cell_kept hb hH1.2.2.2.2.2.2.2.2.1, cell_kept hb hH1.2.2.2.2.2.2.2.2.2.1, hH1.2.2.2.2.2.2.2.2.2.2.trans (hb.mono hH1.2.2.2.2.2.2.2.2.2.2.size)⟩) (fun hH2 => ?_)
      clear hK K hb hH1
      try simp only [Act.put, List.setIfInBounds_toArray, List.set_cons_zero, List.set_cons_succ]
      have hrs : r = sv := Bool.eq_iff_iff.2 (hr.trans HSI.out)
      subst hrs
      clear hr HX2V
      refine wpAnyH_ready (rs := [6]) (by kernel_rfl) (by simp) ?_
      refine AllReadyH.cons rfl (fun K hK => ?_) AllReadyH.nil
      go_simp
      refine (HRS.out _ (HX11.out.2.2.trans (hH2.2.2.2.2.2.2.2.2.2.2.mono HX11.out.2.2.size))).mono ?_
      rintro e w' ⟨rfl, hb⟩
      go_wp2_with fail
      refine hK.out _ _ (⟨cell_kept hb hH2.1, cell_kept hb hH2.2.1, cell_kept hb hH2.2.2.1, cell_kept hb hH2.2.2.2.1, cell_kept hb hH2.2.2.2.2.1, cell_kept hb hH2.2.2.2.2.2.1, cell_kept hb hH2.2.2.2.2.2.2.1, cell_kept hb hH2.2.2.2.2.2.2.2.1, cell_kept hb hH2.2.2.2.2.2.2.2.2.1, cell_kept hb hH2.2.2.2.2.2.2.2.2.2.1, hH2.2.2.2.2.2.2.2.2.2.2.trans (hb.mono hH2.2.2.2.2.2.2.2.2.2.2.size)⟩) (fun hH3 => ?_)
      clear hK K hb hH2
      try simp only [Act.put, List.setIfInBounds_toArray, List.set_cons_zero, List.set_cons_succ]
      refine takeH (i := 7) (d := 122) (v := ?_) rfl rfl (by kernel_rfl) (by kernel_rfl) (by kernel_rfl) (fun _ _ _ h => h) (Or.inl ⟨by rfl, ?yt117⟩) hH3 ?_
      case yt117 => intro w hSw; obtain ⟨hq0, hq1, hq2, hq3, hq4, hq5, hq6, hq7, hq8, hq9, hq10⟩ := hSw; go_simp; try with_reducible rfl
      try simp only [Act.put, List.setIfInBounds_toArray, List.set_cons_zero, List.set_cons_succ]
      refine takeH (i := 8) (d := 123) (v := ?_) rfl rfl (by kernel_rfl) (by kernel_rfl) (by kernel_rfl) (fun _ _ _ h => h) (Or.inl ⟨by rfl, ?yt118⟩) hH3 ?_
      case yt118 => intro w hSw; obtain ⟨hq0, hq1, hq2, hq3, hq4, hq5, hq6, hq7, hq8, hq9, hq10⟩ := hSw; go_simp; try with_reducible rfl
      try simp only [Act.put, List.setIfInBounds_toArray, List.set_cons_zero, List.set_cons_succ]
      refine takeH (i := 9) (d := 124) (v := ?_) rfl rfl (by kernel_rfl) (by kernel_rfl) (by kernel_rfl) (fun _ _ _ h => h) (Or.inl ⟨by rfl, ?yt119⟩) hH3 ?_
      case yt119 => intro w hSw; obtain ⟨hq0, hq1, hq2, hq3, hq4, hq5, hq6, hq7, hq8, hq9, hq10⟩ := hSw; go_simp; try with_reducible rfl
      try simp only [Act.put, List.setIfInBounds_toArray, List.set_cons_zero, List.set_cons_succ]
      refine takeH (i := 10) (d := 125) (v := ?_) rfl rfl (by kernel_rfl) (by kernel_rfl) (by kernel_rfl) (fun _ _ _ h => h) (Or.inl ⟨by rfl, ?yt1110⟩) hH3 ?_
      case yt1110 => intro w hSw; obtain ⟨hq0, hq1, hq2, hq3, hq4, hq5, hq6, hq7, hq8, hq9, hq10⟩ := hSw; go_simp; try with_reducible rfl
      try simp only [Act.put, List.setIfInBounds_toArray, List.set_cons_zero, List.set_cons_succ]
      refine takeH (i := 11) (d := 126) (v := ?_) rfl rfl (by kernel_rfl) (by kernel_rfl) (by kernel_rfl) (fun _ _ _ h => h) (Or.inl ⟨by rfl, ?yt1111⟩) hH3 ?_
      case yt1111 => intro w hSw; obtain ⟨hq0, hq1, hq2, hq3, hq4, hq5, hq6, hq7, hq8, hq9, hq10⟩ := hSw; go_simp; try with_reducible rfl
      try simp only [Act.put, List.setIfInBounds_toArray, List.set_cons_zero, List.set_cons_succ]
      refine takeH (i := 12) (d := 127) (v := ?_) rfl rfl (by kernel_rfl) (by kernel_rfl) (by kernel_rfl) (fun _ _ _ h => h) (Or.inl ⟨by rfl, ?yt1112⟩) hH3 ?_
      case yt1112 => intro w hSw; obtain ⟨hq0, hq1, hq2, hq3, hq4, hq5, hq6, hq7, hq8, hq9, hq10⟩ := hSw; go_simp; try with_reducible rfl
      try simp only [Act.put, List.setIfInBounds_toArray, List.set_cons_zero, List.set_cons_succ]
      refine takeH (i := 13) (d := 128) (v := ?_) rfl rfl (by kernel_rfl) (by kernel_rfl) (by kernel_rfl) (fun _ _ _ h => h) (Or.inl ⟨by rfl, ?yt1113⟩) hH3 ?_
      case yt1113 => intro w hSw; obtain ⟨hq0, hq1, hq2, hq3, hq4, hq5, hq6, hq7, hq8, hq9, hq10⟩ := hSw; go_simp; try with_reducible rfl
      try simp only [Act.put, List.setIfInBounds_toArray, List.set_cons_zero, List.set_cons_succ]
      refine takeH (i := 15) (d := 130) (v := ?_) rfl rfl (by kernel_rfl) (by kernel_rfl) (by kernel_rfl) (fun _ _ _ h => h) (Or.inl ⟨by rfl, ?yt1115⟩) hH3 ?_
      case yt1115 => intro w hSw; obtain ⟨hq0, hq1, hq2, hq3, hq4, hq5, hq6, hq7, hq8, hq9, hq10⟩ := hSw; go_simp; try with_reducible rfl
      try simp only [Act.put, List.setIfInBounds_toArray, List.set_cons_zero, List.set_cons_succ]
      refine takeH (i := 16) (d := 131) (v := ?_) rfl rfl (by kernel_rfl) (by kernel_rfl) (by kernel_rfl) (fun _ _ _ h => h) (Or.inl ⟨by rfl, ?yt1116⟩) hH3 ?_
      case yt1116 => intro w hSw; obtain ⟨hq0, hq1, hq2, hq3, hq4, hq5, hq6, hq7, hq8, hq9, hq10⟩ := hSw; go_simp; try with_reducible rfl
      try simp only [Act.put, List.setIfInBounds_toArray, List.set_cons_zero, List.set_cons_succ]
      refine wpAnyH_ready (rs := [14]) (by kernel_rfl) (by simp) ?_
      refine AllReadyH.cons rfl (fun K hK => ?_) AllReadyH.nil
      go_simp
      refine (HMT.out _).mono ?_
      rintro e w' ⟨rfl, hb⟩
      go_wp2_with fail
      refine hK.out _ _ (⟨cell_kept hb hH3.1, cell_kept hb hH3.2.1, cell_kept hb hH3.2.2.1, cell_kept hb hH3.2.2.2.1, cell_kept hb hH3.2.2.2.2.1, cell_kept hb hH3.2.2.2.2.2.1, cell_kept hb hH3.2.2.2.2.2.2.1, cell_kept hb hH3.2.2.2.2.2.2.2.1, cell_kept hb hH3.2.2.2.2.2.2.2.2.1, cell_kept hb hH3.2.2.2.2.2.2.2.2.2.1, hH3.2.2.2.2.2.2.2.2.2.2.trans (hb.mono hH3.2.2.2.2.2.2.2.2.2.2.size)⟩) (fun hH4 => ?_)
      clear hK K hb hH3
      try simp only [Act.put, List.setIfInBounds_toArray, List.set_cons_zero, List.set_cons_succ]
      refine takeH (i := 17) (d := 132) (v := ?_) rfl rfl (by kernel_rfl) (by kernel_rfl) (by kernel_rfl) (fun _ _ _ h => h) (Or.inl ⟨by rfl, ?yt1117⟩) hH4 ?_
      case yt1117 => intro w hSw; obtain ⟨hq0, hq1, hq2, hq3, hq4, hq5, hq6, hq7, hq8, hq9, hq10⟩ := hSw; go_simp; try with_reducible rfl
      try simp only [Act.put, List.setIfInBounds_toArray, List.set_cons_zero, List.set_cons_succ]
      refine takeH (i := 18) (d := 133) (v := ?_) rfl rfl (by kernel_rfl) (by kernel_rfl) (by kernel_rfl) (fun _ _ _ h => h) (Or.inl ⟨by rfl, ?yt1118⟩) hH4 ?_
      case yt1118 => intro w hSw; obtain ⟨hq0, hq1, hq2, hq3, hq4, hq5, hq6, hq7, hq8, hq9, hq10⟩ := hSw; go_simp; try with_reducible rfl
      try simp only [Act.put, List.setIfInBounds_toArray, List.set_cons_zero, List.set_cons_succ]
      refine takeH (i := 19) (d := 134) (v := ?_) rfl rfl (by kernel_rfl) (by kernel_rfl) (by kernel_rfl) (fun _ _ _ h => h) (Or.inl ⟨by rfl, ?yt1119⟩) hH4 ?_
      case yt1119 => intro w hSw; obtain ⟨hq0, hq1, hq2, hq3, hq4, hq5, hq6, hq7, hq8, hq9, hq10⟩ := hSw; go_simp; try with_reducible rfl
      try simp only [Act.put, List.setIfInBounds_toArray, List.set_cons_zero, List.set_cons_succ]
      refine takeH (i := 20) (d := 135) (v := ?_) rfl rfl (by kernel_rfl) (by kernel_rfl) (by kernel_rfl) (fun _ _ _ h => h) (Or.inl ⟨by rfl, ?yt1120⟩) hH4 ?_
      case yt1120 => intro w hSw; obtain ⟨hq0, hq1, hq2, hq3, hq4, hq5, hq6, hq7, hq8, hq9, hq10⟩ := hSw; go_simp; try with_reducible rfl
      try simp only [Act.put, List.setIfInBounds_toArray, List.set_cons_zero, List.set_cons_succ]
      refine wpAnyH_ready (rs := [21]) (by kernel_rfl) (by simp) ?_
      refine AllReadyH.cons rfl (fun K hK => ?_) AllReadyH.nil
      go_simp
      refine (HA.out _ (HX11.out.2.2.trans (hH4.2.2.2.2.2.2.2.2.2.2.mono HX11.out.2.2.size))).mono ?_
      rintro e w' ⟨rfl, hb⟩
      go_wp2_with fail
      refine hK.out _ _ (⟨cell_kept hb hH4.1, cell_kept hb hH4.2.1, cell_kept hb hH4.2.2.1, cell_kept hb hH4.2.2.2.1, cell_kept hb hH4.2.2.2.2.1, cell_kept hb hH4.2.2.2.2.2.1, cell_kept hb hH4.2.2.2.2.2.2.1, cell_kept hb hH4.2.2.2.2.2.2.2.1, cell_kept hb hH4.2.2.2.2.2.2.2.2.1, cell_kept hb hH4.2.2.2.2.2.2.2.2.2.1, hH4.2.2.2.2.2.2.2.2.2.2.trans (hb.mono hH4.2.2.2.2.2.2.2.2.2.2.size)⟩) (fun hH5 => ?_)
      clear hK K hb hH4
      try simp only [Act.put, List.setIfInBounds_toArray, List.set_cons_zero, List.set_cons_succ]
      refine takeH (i := 22) (d := 137) (v := ?_) rfl rfl (by kernel_rfl) (by kernel_rfl) (by kernel_rfl) (fun _ _ _ h => h) (Or.inl ⟨by rfl, ?yt1122⟩) hH5 ?_
      case yt1122 => intro w hSw; obtain ⟨hq0, hq1, hq2, hq3, hq4, hq5, hq6, hq7, hq8, hq9, hq10⟩ := hSw; go_simp; try with_reducible rfl
      try simp only [Act.put, List.setIfInBounds_toArray, List.set_cons_zero, List.set_cons_succ]
      refine takeH (i := 23) (d := 6) (v := ?_) rfl rfl (by kernel_rfl) (by kernel_rfl) (by kernel_rfl) (fun _ _ _ h => h) (Or.inl ⟨by rfl, ?yt1123⟩) hH5 ?_
      case yt1123 => intro w hSw; obtain ⟨hq0, hq1, hq2, hq3, hq4, hq5, hq6, hq7, hq8, hq9, hq10⟩ := hSw; go_simp; try with_reducible rfl
      try simp only [Act.put, List.setIfInBounds_toArray, List.set_cons_zero, List.set_cons_succ]
      refine wpAnyH_done (by kernel_rfl) ?_ _
      have HFIN := Lib.hid hH5
      clear hH5
      go_wp2_with fail
      go_ret
      exact ⟨rfl, HX11.out.2.2.trans (HFIN.out.2.2.2.2.2.2.2.2.2.2.mono HX11.out.2.2.size)⟩
  · have h4b : (k == 4) = false := by rw [beq_eq_false_iff_ne]; exact h4
    have hbt : bt = false := by rw [hbk]; simpa using h4
    obtain rfl : t = { data := #[] } := ht0 hbt
    subst hbt
    have h4n : (k != 4) = true := by simpa using h4
    clear hbk hts ht0
    obtain ⟨⟨b0, b1, b2, b3, b4⟩, ⟨c0, c1, c2, c3, c4⟩, hbw⟩ := HX9.out
    clear hbw
    go_upto_region 9 with fail
    have HS9 : w9.drew.cell? ⟨w.heap.size, 0, none⟩ = some (.int .u8 k) ∧ w9.drew.cell? ⟨w.heap.size, 1, none⟩ = some (.int .i64 n) ∧ w9.drew.cell? ⟨w.heap.size, 2, none⟩ = some (.string s) ∧ w9.drew.cell? ⟨w.heap.size, 3, none⟩ = some (nv) ∧ w9.drew.cell? ⟨w.heap.size, 4, none⟩ = some (kv) ∧ w9.drew.cell? ⟨w.heap.size + 1, 0, none⟩ = some (.int .u8 k') ∧ w9.drew.cell? ⟨w.heap.size + 1, 1, none⟩ = some (.int .i64 n') ∧ w9.drew.cell? ⟨w.heap.size + 1, 2, none⟩ = some (.string s') ∧ w9.drew.cell? ⟨w.heap.size + 1, 3, none⟩ = some (nv') ∧ w9.drew.cell? ⟨w.heap.size + 1, 4, none⟩ = some (kv') ∧ Below w9.heap.size w9 w9.drew := ⟨b0, b1, b2, b3, b4, c0, c1, c2, c3, c4, (Below.refl _ w9).drew⟩
    clear b0 b1 b2 b3 b4 c0 c1 c2 c3 c4
    refine wp_region_held_drew (S := fun w' => w'.cell? ⟨w.heap.size, 0, none⟩ = some (.int .u8 k) ∧ w'.cell? ⟨w.heap.size, 1, none⟩ = some (.int .i64 n) ∧ w'.cell? ⟨w.heap.size, 2, none⟩ = some (.string s) ∧ w'.cell? ⟨w.heap.size, 3, none⟩ = some (nv) ∧ w'.cell? ⟨w.heap.size, 4, none⟩ = some (kv) ∧ w'.cell? ⟨w.heap.size + 1, 0, none⟩ = some (.int .u8 k') ∧ w'.cell? ⟨w.heap.size + 1, 1, none⟩ = some (.int .i64 n') ∧ w'.cell? ⟨w.heap.size + 1, 2, none⟩ = some (.string s') ∧ w'.cell? ⟨w.heap.size + 1, 3, none⟩ = some (nv') ∧ w'.cell? ⟨w.heap.size + 1, 4, none⟩ = some (kv') ∧ Below w9.heap.size w9 w') (by kernel_rfl) HS9 (fun hH0 => ?_)
    refine takeH (i := 0) (d := 56) (v := ?_) rfl rfl (by kernel_rfl) (by kernel_rfl) (by kernel_rfl) (fun _ _ _ h => h) (Or.inl ⟨by rfl, ?yn0⟩) hH0 ?_
    case yn0 => intro w hSw; obtain ⟨hq0, hq1, hq2, hq3, hq4, hq5, hq6, hq7, hq8, hq9, hq10⟩ := hSw; go_simp; try with_reducible rfl
    try simp only [Act.put, List.setIfInBounds_toArray, List.set_cons_zero, List.set_cons_succ]
    refine takeH (i := 1) (d := 57) (v := ?_) rfl rfl (by kernel_rfl) (by kernel_rfl) (by kernel_rfl) (fun _ _ _ h => h) (Or.inl ⟨by rfl, ?yn1⟩) hH0 ?_
    case yn1 => intro w hSw; obtain ⟨hq0, hq1, hq2, hq3, hq4, hq5, hq6, hq7, hq8, hq9, hq10⟩ := hSw; go_simp; try with_reducible rfl
    try simp only [Act.put, List.setIfInBounds_toArray, List.set_cons_zero, List.set_cons_succ]
    refine takeH (i := 2) (d := 58) (v := ?_) rfl rfl (by kernel_rfl) (by kernel_rfl) (by kernel_rfl) (fun _ _ _ h => h) (Or.inl ⟨by rfl, ?yn2⟩) hH0 ?_
    case yn2 => intro w hSw; obtain ⟨hq0, hq1, hq2, hq3, hq4, hq5, hq6, hq7, hq8, hq9, hq10⟩ := hSw; go_simp; try with_reducible rfl
    try simp only [Act.put, List.setIfInBounds_toArray, List.set_cons_zero, List.set_cons_succ]
    refine takeH (i := 3) (d := 59) (v := ?_) rfl rfl (by kernel_rfl) (by kernel_rfl) (by kernel_rfl) (fun _ _ _ h => h) (Or.inl ⟨by rfl, ?yn3⟩) hH0 ?_
    case yn3 => intro w hSw; obtain ⟨hq0, hq1, hq2, hq3, hq4, hq5, hq6, hq7, hq8, hq9, hq10⟩ := hSw; go_simp; try with_reducible rfl
    try simp only [Act.put, List.setIfInBounds_toArray, List.set_cons_zero, List.set_cons_succ]
    refine takeH (i := 4) (d := 60) (v := ?_) rfl rfl (by kernel_rfl) (by kernel_rfl) (by kernel_rfl) (fun _ _ _ h => h) (Or.inl ⟨by rfl, ?yn4⟩) hH0 ?_
    case yn4 => intro w hSw; obtain ⟨hq0, hq1, hq2, hq3, hq4, hq5, hq6, hq7, hq8, hq9, hq10⟩ := hSw; go_simp; try with_reducible rfl
    try simp only [Act.put, List.setIfInBounds_toArray, List.set_cons_zero, List.set_cons_succ]
    refine takeH (i := 5) (d := 61) (v := ?_) rfl rfl (by kernel_rfl) (by kernel_rfl) (by kernel_rfl) (fun _ _ _ h => h) (Or.inl ⟨by rfl, ?yn5⟩) hH0 ?_
    case yn5 => intro w hSw; obtain ⟨hq0, hq1, hq2, hq3, hq4, hq5, hq6, hq7, hq8, hq9, hq10⟩ := hSw; go_simp; try with_reducible rfl
    try simp only [Act.put, List.setIfInBounds_toArray, List.set_cons_zero, List.set_cons_succ]
    refine takeH (i := 6) (d := 62) (v := ?_) rfl rfl (by kernel_rfl) (by kernel_rfl) (by kernel_rfl) (fun _ _ _ h => h) (Or.inl ⟨by rfl, ?yn6⟩) hH0 ?_
    case yn6 => intro w hSw; obtain ⟨hq0, hq1, hq2, hq3, hq4, hq5, hq6, hq7, hq8, hq9, hq10⟩ := hSw; go_simp; try with_reducible rfl
    try simp only [Act.put, List.setIfInBounds_toArray, List.set_cons_zero, List.set_cons_succ]
    refine takeH (i := 7) (d := 63) (v := ?_) rfl rfl (by kernel_rfl) (by kernel_rfl) (by kernel_rfl) (fun _ _ _ h => h) (Or.inl ⟨by rfl, ?yn7⟩) hH0 ?_
    case yn7 => intro w hSw; obtain ⟨hq0, hq1, hq2, hq3, hq4, hq5, hq6, hq7, hq8, hq9, hq10⟩ := hSw; go_simp; try with_reducible rfl
    try simp only [Act.put, List.setIfInBounds_toArray, List.set_cons_zero, List.set_cons_succ]
    refine takeH (i := 8) (d := 64) (v := ?_) rfl rfl (by kernel_rfl) (by kernel_rfl) (by kernel_rfl) (fun _ _ _ h => h) (Or.inl ⟨by rfl, ?yn8⟩) hH0 ?_
    case yn8 => intro w hSw; obtain ⟨hq0, hq1, hq2, hq3, hq4, hq5, hq6, hq7, hq8, hq9, hq10⟩ := hSw; go_simp; try with_reducible rfl
    try simp only [Act.put, List.setIfInBounds_toArray, List.set_cons_zero, List.set_cons_succ]
    refine takeH (i := 9) (d := 65) (v := ?_) rfl rfl (by kernel_rfl) (by kernel_rfl) (by kernel_rfl) (fun _ _ _ h => h) (Or.inl ⟨by rfl, ?yn9⟩) hH0 ?_
    case yn9 => intro w hSw; obtain ⟨hq0, hq1, hq2, hq3, hq4, hq5, hq6, hq7, hq8, hq9, hq10⟩ := hSw; go_simp; try with_reducible rfl
    try simp only [Act.put, List.setIfInBounds_toArray, List.set_cons_zero, List.set_cons_succ]
    refine takeH (i := 11) (d := 67) (v := ?_) rfl rfl (by kernel_rfl) (by kernel_rfl) (by kernel_rfl) (fun _ _ _ h => h) (Or.inl ⟨by rfl, ?yn11⟩) hH0 ?_
    case yn11 => intro w hSw; obtain ⟨hq0, hq1, hq2, hq3, hq4, hq5, hq6, hq7, hq8, hq9, hq10⟩ := hSw; go_simp; try with_reducible rfl
    try simp only [Act.put, List.setIfInBounds_toArray, List.set_cons_zero, List.set_cons_succ]
    refine wpAnyH_ready (rs := [10]) (by kernel_rfl) (by simp) ?_
    refine AllReadyH.cons rfl (fun K hK => ?_) AllReadyH.nil
    go_simp
    refine (HCK.out _ _ (HV9.out.below hH0.2.2.2.2.2.2.2.2.2.2)).mono ?_
    rintro e w' ⟨rfl, hb⟩
    go_wp2_with fail
    refine hK.out _ _ (⟨cell_kept hb hH0.1, cell_kept hb hH0.2.1, cell_kept hb hH0.2.2.1, cell_kept hb hH0.2.2.2.1, cell_kept hb hH0.2.2.2.2.1, cell_kept hb hH0.2.2.2.2.2.1, cell_kept hb hH0.2.2.2.2.2.2.1, cell_kept hb hH0.2.2.2.2.2.2.2.1, cell_kept hb hH0.2.2.2.2.2.2.2.2.1, cell_kept hb hH0.2.2.2.2.2.2.2.2.2.1, hH0.2.2.2.2.2.2.2.2.2.2.trans (hb.mono hH0.2.2.2.2.2.2.2.2.2.2.size)⟩) (fun hH1 => ?_)
    clear hK K hb hH0
    try simp only [Act.put, List.setIfInBounds_toArray, List.set_cons_zero, List.set_cons_succ]
    refine wpAnyH_ready (rs := [12]) (by kernel_rfl) (by simp) ?_
    refine AllReadyH.cons rfl (fun K hK => ?_) AllReadyH.nil
    go_simp
    refine (HRC.out _ (HX9.out.2.2.trans (hH1.2.2.2.2.2.2.2.2.2.2.mono HX9.out.2.2.size))).mono ?_
    rintro e w10 ⟨rfl, hb⟩
    go_wp2_with fail
    refine hK.out _ _ (⟨cell_kept hb hH1.1, cell_kept hb hH1.2.1, cell_kept hb hH1.2.2.1, cell_kept hb hH1.2.2.2.1, cell_kept hb hH1.2.2.2.2.1, cell_kept hb hH1.2.2.2.2.2.1, cell_kept hb hH1.2.2.2.2.2.2.1, cell_kept hb hH1.2.2.2.2.2.2.2.1, cell_kept hb hH1.2.2.2.2.2.2.2.2.1, cell_kept hb hH1.2.2.2.2.2.2.2.2.2.1, hH1.2.2.2.2.2.2.2.2.2.2.trans (hb.mono hH1.2.2.2.2.2.2.2.2.2.2.size)⟩) (fun hH2 => ?_)
    clear hK K hb hH1
    try simp only [Act.put, List.setIfInBounds_toArray, List.set_cons_zero, List.set_cons_succ]
    refine takeH (i := 13) (d := 69) (v := ?_) rfl rfl (by kernel_rfl) (by kernel_rfl) (by kernel_rfl) (fun _ _ _ h => h) (Or.inl ⟨by rfl, ?yn13⟩) hH2 ?_
    case yn13 => intro w hSw; obtain ⟨hq0, hq1, hq2, hq3, hq4, hq5, hq6, hq7, hq8, hq9, hq10⟩ := hSw; go_simp; try with_reducible rfl
    try simp only [Act.put, List.setIfInBounds_toArray, List.set_cons_zero, List.set_cons_succ]
    refine takeH (i := 14) (d := 70) (v := ?_) rfl rfl (by kernel_rfl) (by kernel_rfl) (by kernel_rfl) (fun _ _ _ h => h) (Or.inl ⟨by rfl, ?yn14⟩) hH2 ?_
    case yn14 => intro w hSw; obtain ⟨hq0, hq1, hq2, hq3, hq4, hq5, hq6, hq7, hq8, hq9, hq10⟩ := hSw; go_simp; try with_reducible rfl
    try simp only [Act.put, List.setIfInBounds_toArray, List.set_cons_zero, List.set_cons_succ]
    refine takeH (i := 15) (d := 71) (v := ?_) rfl rfl (by kernel_rfl) (by kernel_rfl) (by kernel_rfl) (fun _ _ _ h => h) (Or.inl ⟨by rfl, ?yn15⟩) hH2 ?_
    case yn15 => intro w hSw; obtain ⟨hq0, hq1, hq2, hq3, hq4, hq5, hq6, hq7, hq8, hq9, hq10⟩ := hSw; go_simp; try with_reducible rfl
    try simp only [Act.put, List.setIfInBounds_toArray, List.set_cons_zero, List.set_cons_succ]
    refine takeH (i := 16) (d := 72) (v := ?_) rfl rfl (by kernel_rfl) (by kernel_rfl) (by kernel_rfl) (fun _ _ _ h => h) (Or.inl ⟨by rfl, ?yn16⟩) hH2 ?_
    case yn16 => intro w hSw; obtain ⟨hq0, hq1, hq2, hq3, hq4, hq5, hq6, hq7, hq8, hq9, hq10⟩ := hSw; go_simp; try with_reducible rfl
    try simp only [Act.put, List.setIfInBounds_toArray, List.set_cons_zero, List.set_cons_succ]
    refine takeH (i := 17) (d := 73) (v := ?_) rfl rfl (by kernel_rfl) (by kernel_rfl) (by kernel_rfl) (fun _ _ _ h => h) (Or.inl ⟨by rfl, ?yn17⟩) hH2 ?_
    case yn17 => intro w hSw; obtain ⟨hq0, hq1, hq2, hq3, hq4, hq5, hq6, hq7, hq8, hq9, hq10⟩ := hSw; go_simp; try with_reducible rfl
    try simp only [Act.put, List.setIfInBounds_toArray, List.set_cons_zero, List.set_cons_succ]
    refine takeH (i := 18) (d := 74) (v := ?_) rfl rfl (by kernel_rfl) (by kernel_rfl) (by kernel_rfl) (fun _ _ _ h => h) (Or.inl ⟨by rfl, ?yn18⟩) hH2 ?_
    case yn18 => intro w hSw; obtain ⟨hq0, hq1, hq2, hq3, hq4, hq5, hq6, hq7, hq8, hq9, hq10⟩ := hSw; go_simp; try with_reducible rfl
    try simp only [Act.put, List.setIfInBounds_toArray, List.set_cons_zero, List.set_cons_succ]
    refine takeH (i := 19) (d := 75) (v := ?_) rfl rfl (by kernel_rfl) (by kernel_rfl) (by kernel_rfl) (fun _ _ _ h => h) (Or.inl ⟨by rfl, ?yn19⟩) hH2 ?_
    case yn19 => intro w hSw; obtain ⟨hq0, hq1, hq2, hq3, hq4, hq5, hq6, hq7, hq8, hq9, hq10⟩ := hSw; go_simp; try with_reducible rfl
    try simp only [Act.put, List.setIfInBounds_toArray, List.set_cons_zero, List.set_cons_succ]
    refine takeH (i := 20) (d := 76) (v := ?_) rfl rfl (by kernel_rfl) (by kernel_rfl) (by kernel_rfl) (fun _ _ _ h => h) (Or.inl ⟨by rfl, ?yn20⟩) hH2 ?_
    case yn20 => intro w hSw; obtain ⟨hq0, hq1, hq2, hq3, hq4, hq5, hq6, hq7, hq8, hq9, hq10⟩ := hSw; go_simp; try with_reducible rfl
    try simp only [Act.put, List.setIfInBounds_toArray, List.set_cons_zero, List.set_cons_succ]
    refine takeH (i := 21) (d := 77) (v := ?_) rfl rfl (by kernel_rfl) (by kernel_rfl) (by kernel_rfl) (fun _ _ _ h => h) (Or.inl ⟨by rfl, ?yn21⟩) hH2 ?_
    case yn21 => intro w hSw; obtain ⟨hq0, hq1, hq2, hq3, hq4, hq5, hq6, hq7, hq8, hq9, hq10⟩ := hSw; go_simp; try with_reducible rfl
    try simp only [Act.put, List.setIfInBounds_toArray, List.set_cons_zero, List.set_cons_succ]
    refine takeH (i := 22) (d := 78) (v := ?_) rfl rfl (by kernel_rfl) (by kernel_rfl) (by kernel_rfl) (fun _ _ _ h => h) (Or.inl ⟨by rfl, ?yn22⟩) hH2 ?_
    case yn22 => intro w hSw; obtain ⟨hq0, hq1, hq2, hq3, hq4, hq5, hq6, hq7, hq8, hq9, hq10⟩ := hSw; go_simp; try with_reducible rfl
    try simp only [Act.put, List.setIfInBounds_toArray, List.set_cons_zero, List.set_cons_succ]
    refine takeH (i := 23) (d := 79) (v := ?_) rfl rfl (by kernel_rfl) (by kernel_rfl) (by kernel_rfl) (fun _ _ _ h => h) (Or.inl ⟨by rfl, ?yn23⟩) hH2 ?_
    case yn23 => intro w hSw; obtain ⟨hq0, hq1, hq2, hq3, hq4, hq5, hq6, hq7, hq8, hq9, hq10⟩ := hSw; go_simp; try with_reducible rfl
    try simp only [Act.put, List.setIfInBounds_toArray, List.set_cons_zero, List.set_cons_succ]
    refine takeH (i := 24) (d := 80) (v := ?_) rfl rfl (by kernel_rfl) (by kernel_rfl) (by kernel_rfl) (fun _ _ _ h => h) (Or.inl ⟨by rfl, ?yn24⟩) hH2 ?_
    case yn24 => intro w hSw; obtain ⟨hq0, hq1, hq2, hq3, hq4, hq5, hq6, hq7, hq8, hq9, hq10⟩ := hSw; go_simp; try with_reducible rfl
    try simp only [Act.put, List.setIfInBounds_toArray, List.set_cons_zero, List.set_cons_succ]
    refine takeH (i := 25) (d := 81) (v := ?_) rfl rfl (by kernel_rfl) (by kernel_rfl) (by kernel_rfl) (fun _ _ _ h => h) (Or.inl ⟨by rfl, ?yn25⟩) hH2 ?_
    case yn25 => intro w hSw; obtain ⟨hq0, hq1, hq2, hq3, hq4, hq5, hq6, hq7, hq8, hq9, hq10⟩ := hSw; go_simp; try with_reducible rfl
    try simp only [Act.put, List.setIfInBounds_toArray, List.set_cons_zero, List.set_cons_succ]
    refine takeH (i := 26) (d := 82) (v := ?_) rfl rfl (by kernel_rfl) (by kernel_rfl) (by kernel_rfl) (fun _ _ _ h => h) (Or.inl ⟨by rfl, ?yn26⟩) hH2 ?_
    case yn26 => intro w hSw; obtain ⟨hq0, hq1, hq2, hq3, hq4, hq5, hq6, hq7, hq8, hq9, hq10⟩ := hSw; go_simp; try with_reducible rfl
    try simp only [Act.put, List.setIfInBounds_toArray, List.set_cons_zero, List.set_cons_succ]
    refine takeH (i := 27) (d := 83) (v := ?_) rfl rfl (by kernel_rfl) (by kernel_rfl) (by kernel_rfl) (fun _ _ _ h => h) (Or.inl ⟨by rfl, ?yn27⟩) hH2 ?_
    case yn27 => intro w hSw; obtain ⟨hq0, hq1, hq2, hq3, hq4, hq5, hq6, hq7, hq8, hq9, hq10⟩ := hSw; go_simp; try with_reducible rfl
    try simp only [Act.put, List.setIfInBounds_toArray, List.set_cons_zero, List.set_cons_succ]
    refine takeH (i := 28) (d := 84) (v := ?_) rfl rfl (by kernel_rfl) (by kernel_rfl) (by kernel_rfl) (fun _ _ _ h => h) (Or.inl ⟨by rfl, ?yn28⟩) hH2 ?_
    case yn28 => intro w hSw; obtain ⟨hq0, hq1, hq2, hq3, hq4, hq5, hq6, hq7, hq8, hq9, hq10⟩ := hSw; go_simp; try with_reducible rfl
    try simp only [Act.put, List.setIfInBounds_toArray, List.set_cons_zero, List.set_cons_succ]
    refine takeH (i := 29) (d := 85) (v := ?_) rfl rfl (by kernel_rfl) (by kernel_rfl) (by kernel_rfl) (fun _ _ _ h => h) (Or.inl ⟨by rfl, ?yn29⟩) hH2 ?_
    case yn29 => intro w hSw; obtain ⟨hq0, hq1, hq2, hq3, hq4, hq5, hq6, hq7, hq8, hq9, hq10⟩ := hSw; go_simp; try with_reducible rfl
    try simp only [Act.put, List.setIfInBounds_toArray, List.set_cons_zero, List.set_cons_succ]
    refine takeH (i := 30) (d := 86) (v := undef) rfl rfl (by kernel_rfl) (by kernel_rfl) (by kernel_rfl) (fun _ _ _ h => h) (Or.inr ⟨by rfl, rfl⟩) hH2 ?_
    try simp only [Act.put, List.setIfInBounds_toArray, List.set_cons_zero, List.set_cons_succ]
    refine takeH (i := 31) (d := 87) (v := undef) rfl rfl (by kernel_rfl) (by kernel_rfl) (by kernel_rfl) (fun _ _ _ h => h) (Or.inr ⟨by rfl, rfl⟩) hH2 ?_
    try simp only [Act.put, List.setIfInBounds_toArray, List.set_cons_zero, List.set_cons_succ]
    refine takeH (i := 32) (d := 88) (v := undef) rfl rfl (by kernel_rfl) (by kernel_rfl) (by kernel_rfl) (fun _ _ _ h => h) (Or.inr ⟨by rfl, rfl⟩) hH2 ?_
    try simp only [Act.put, List.setIfInBounds_toArray, List.set_cons_zero, List.set_cons_succ]
    refine takeH (i := 33) (d := 89) (v := undef) rfl rfl (by kernel_rfl) (by kernel_rfl) (by kernel_rfl) (fun _ _ _ h => h) (Or.inr ⟨by rfl, rfl⟩) hH2 ?_
    try simp only [Act.put, List.setIfInBounds_toArray, List.set_cons_zero, List.set_cons_succ]
    refine takeH (i := 34) (d := 90) (v := ?_) rfl rfl (by kernel_rfl) (by kernel_rfl) (by kernel_rfl) (fun _ _ _ h => h) (Or.inl ⟨by rfl, ?yn34⟩) hH2 ?_
    case yn34 => intro w hSw; obtain ⟨hq0, hq1, hq2, hq3, hq4, hq5, hq6, hq7, hq8, hq9, hq10⟩ := hSw; go_simp; try with_reducible rfl
    try simp only [Act.put, List.setIfInBounds_toArray, List.set_cons_zero, List.set_cons_succ]
    refine takeH (i := 35) (d := 91) (v := ?_) rfl rfl (by kernel_rfl) (by kernel_rfl) (by kernel_rfl) (fun _ _ _ h => h) (Or.inl ⟨by rfl, ?yn35⟩) hH2 ?_
    case yn35 => intro w hSw; obtain ⟨hq0, hq1, hq2, hq3, hq4, hq5, hq6, hq7, hq8, hq9, hq10⟩ := hSw; go_simp; try with_reducible rfl
    try simp only [Act.put, List.setIfInBounds_toArray, List.set_cons_zero, List.set_cons_succ]
    refine takeH (i := 36) (d := 92) (v := ?_) rfl rfl (by kernel_rfl) (by kernel_rfl) (by kernel_rfl) (fun _ _ _ h => h) (Or.inl ⟨by rfl, ?yn36⟩) hH2 ?_
    case yn36 => intro w hSw; obtain ⟨hq0, hq1, hq2, hq3, hq4, hq5, hq6, hq7, hq8, hq9, hq10⟩ := hSw; go_simp; try with_reducible rfl
    try simp only [Act.put, List.setIfInBounds_toArray, List.set_cons_zero, List.set_cons_succ]
    refine takeH (i := 37) (d := 93) (v := ?_) rfl rfl (by kernel_rfl) (by kernel_rfl) (by kernel_rfl) (fun _ _ _ h => h) (Or.inl ⟨by rfl, ?yn37⟩) hH2 ?_
    case yn37 => intro w hSw; obtain ⟨hq0, hq1, hq2, hq3, hq4, hq5, hq6, hq7, hq8, hq9, hq10⟩ := hSw; go_simp; try with_reducible rfl
    try simp only [Act.put, List.setIfInBounds_toArray, List.set_cons_zero, List.set_cons_succ]
    refine takeH (i := 38) (d := 94) (v := ?_) rfl rfl (by kernel_rfl) (by kernel_rfl) (by kernel_rfl) (fun _ _ _ h => h) (Or.inl ⟨by rfl, ?yn38⟩) hH2 ?_
    case yn38 => intro w hSw; obtain ⟨hq0, hq1, hq2, hq3, hq4, hq5, hq6, hq7, hq8, hq9, hq10⟩ := hSw; go_simp; try with_reducible rfl
    try simp only [Act.put, List.setIfInBounds_toArray, List.set_cons_zero, List.set_cons_succ]
    refine takeH (i := 39) (d := 95) (v := ?_) rfl rfl (by kernel_rfl) (by kernel_rfl) (by kernel_rfl) (fun _ _ _ h => h) (Or.inl ⟨by rfl, ?yn39⟩) hH2 ?_
    case yn39 => intro w hSw; obtain ⟨hq0, hq1, hq2, hq3, hq4, hq5, hq6, hq7, hq8, hq9, hq10⟩ := hSw; go_simp; try with_reducible rfl
    try simp only [Act.put, List.setIfInBounds_toArray, List.set_cons_zero, List.set_cons_succ]
    refine takeH (i := 40) (d := 96) (v := ?_) rfl rfl (by kernel_rfl) (by kernel_rfl) (by kernel_rfl) (fun _ _ _ h => h) (Or.inl ⟨by rfl, ?yn40⟩) hH2 ?_
    case yn40 => intro w hSw; obtain ⟨hq0, hq1, hq2, hq3, hq4, hq5, hq6, hq7, hq8, hq9, hq10⟩ := hSw; go_simp; try with_reducible rfl
    try simp only [Act.put, List.setIfInBounds_toArray, List.set_cons_zero, List.set_cons_succ]
    refine takeH (i := 41) (d := 97) (v := ?_) rfl rfl (by kernel_rfl) (by kernel_rfl) (by kernel_rfl) (fun _ _ _ h => h) (Or.inl ⟨by rfl, ?yn41⟩) hH2 ?_
    case yn41 => intro w hSw; obtain ⟨hq0, hq1, hq2, hq3, hq4, hq5, hq6, hq7, hq8, hq9, hq10⟩ := hSw; go_simp; try with_reducible rfl
    try simp only [Act.put, List.setIfInBounds_toArray, List.set_cons_zero, List.set_cons_succ]
    refine takeH (i := 42) (d := 98) (v := ?_) rfl rfl (by kernel_rfl) (by kernel_rfl) (by kernel_rfl) (fun _ _ _ h => h) (Or.inl ⟨by rfl, ?yn42⟩) hH2 ?_
    case yn42 => intro w hSw; obtain ⟨hq0, hq1, hq2, hq3, hq4, hq5, hq6, hq7, hq8, hq9, hq10⟩ := hSw; go_simp; try with_reducible rfl
    try simp only [Act.put, List.setIfInBounds_toArray, List.set_cons_zero, List.set_cons_succ]
    refine takeH (i := 43) (d := 99) (v := ?_) rfl rfl (by kernel_rfl) (by kernel_rfl) (by kernel_rfl) (fun _ _ _ h => h) (Or.inl ⟨by rfl, ?yn43⟩) hH2 ?_
    case yn43 => intro w hSw; obtain ⟨hq0, hq1, hq2, hq3, hq4, hq5, hq6, hq7, hq8, hq9, hq10⟩ := hSw; go_simp; try with_reducible rfl
    try simp only [Act.put, List.setIfInBounds_toArray, List.set_cons_zero, List.set_cons_succ]
    refine wpAnyH_done (by kernel_rfl) ?_ _
    clear HS9
    have HX10 := Lib.hid (HX9.out.later hH2.2.2.2.2.2.2.2.2.2.2)
    have HV10 := Lib.hid (HV9.out.below hH2.2.2.2.2.2.2.2.2.2.2)
    have HB10 := Lib.hid (HB9.out.later hH2.2.2.2.2.2.2.2.2.2.2)
    have HZ10 := Lib.hid (HZ9.out.below hH2.2.2.2.2.2.2.2.2.2.2)
    have HY10 := Lib.hid (fun e => (HY9.out e).1.below hH2.2.2.2.2.2.2.2.2.2.2)
    clear hH2 HV9 HB9 HZ9
    by_cases hbf : bf = true
    · subst hbf
      have HEQ := Lib.hid (eq_any _ aB _ _ y (HY10.out (by first | exact rfl | exact trivial)) (bare_toJ _) HZ10.out (HY9.out (by first | exact rfl | exact trivial)).2)
      unfold EqEnd at HEQ
      obtain ⟨d0, d1, d2, d3, d4⟩ := HB10.out
      go_wp2_with fail
      refine HEQ.out.mono ?_
      rintro e w11 ⟨⟨b, rfl, hb1⟩, hb2⟩
      have hbt : b = true := hb1.2 (by first | exact rfl | exact trivial)
      subst hbt
      have HX11 := Lib.hid (HX10.out.later hb2)
      have HV11 := Lib.hid (HV10.out.below hb2)
      clear hb1 hb2 d0 d1 d2 d3 d4 HX10 HV10 HB10 HZ10 HY10 HY9 HEQ
      obtain ⟨⟨b0, b1, b2, b3, b4⟩, ⟨c0, c1, c2, c3, c4⟩, hbw⟩ := HX11.out
      clear hbw
      go_upto_region 13 with fail
      have HS011 : w11.drew.cell? ⟨w.heap.size, 0, none⟩ = some (.int .u8 k) ∧ w11.drew.cell? ⟨w.heap.size, 1, none⟩ = some (.int .i64 n) ∧ w11.drew.cell? ⟨w.heap.size, 2, none⟩ = some (.string s) ∧ w11.drew.cell? ⟨w.heap.size, 3, none⟩ = some (nv) ∧ w11.drew.cell? ⟨w.heap.size, 4, none⟩ = some (kv) ∧ w11.drew.cell? ⟨w.heap.size + 1, 0, none⟩ = some (.int .u8 k') ∧ w11.drew.cell? ⟨w.heap.size + 1, 1, none⟩ = some (.int .i64 n') ∧ w11.drew.cell? ⟨w.heap.size + 1, 2, none⟩ = some (.string s') ∧ w11.drew.cell? ⟨w.heap.size + 1, 3, none⟩ = some (nv') ∧ w11.drew.cell? ⟨w.heap.size + 1, 4, none⟩ = some (kv') ∧ Below w11.heap.size w11 w11.drew := ⟨b0, b1, b2, b3, b4, c0, c1, c2, c3, c4, (Below.refl _ w11).drew⟩
      clear b0 b1 b2 b3 b4 c0 c1 c2 c3 c4
      refine wp_region_held_drew (S := fun w' => w'.cell? ⟨w.heap.size, 0, none⟩ = some (.int .u8 k) ∧ w'.cell? ⟨w.heap.size, 1, none⟩ = some (.int .i64 n) ∧ w'.cell? ⟨w.heap.size, 2, none⟩ = some (.string s) ∧ w'.cell? ⟨w.heap.size, 3, none⟩ = some (nv) ∧ w'.cell? ⟨w.heap.size, 4, none⟩ = some (kv) ∧ w'.cell? ⟨w.heap.size + 1, 0, none⟩ = some (.int .u8 k') ∧ w'.cell? ⟨w.heap.size + 1, 1, none⟩ = some (.int .i64 n') ∧ w'.cell? ⟨w.heap.size + 1, 2, none⟩ = some (.string s') ∧ w'.cell? ⟨w.heap.size + 1, 3, none⟩ = some (nv') ∧ w'.cell? ⟨w.heap.size + 1, 4, none⟩ = some (kv') ∧ Below w11.heap.size w11 w') (by kernel_rfl) HS011 (fun hH0 => ?_)
      refine takeH (i := 0) (d := 115) (v := ?_) rfl rfl (by kernel_rfl) (by kernel_rfl) (by kernel_rfl) (fun _ _ _ h => h) (Or.inl ⟨by rfl, ?yt110⟩) hH0 ?_
      case yt110 => intro w hSw; obtain ⟨hq0, hq1, hq2, hq3, hq4, hq5, hq6, hq7, hq8, hq9, hq10⟩ := hSw; go_simp; try with_reducible rfl
      try simp only [Act.put, List.setIfInBounds_toArray, List.set_cons_zero, List.set_cons_succ]
      refine takeH (i := 1) (d := 116) (v := ?_) rfl rfl (by kernel_rfl) (by kernel_rfl) (by kernel_rfl) (fun _ _ _ h => h) (Or.inl ⟨by rfl, ?yt111⟩) hH0 ?_
      case yt111 => intro w hSw; obtain ⟨hq0, hq1, hq2, hq3, hq4, hq5, hq6, hq7, hq8, hq9, hq10⟩ := hSw; go_simp; try with_reducible rfl
      try simp only [Act.put, List.setIfInBounds_toArray, List.set_cons_zero, List.set_cons_succ]
      refine takeH (i := 4) (d := 119) (v := ?_) rfl rfl (by kernel_rfl) (by kernel_rfl) (by kernel_rfl) (fun _ _ _ h => h) (Or.inl ⟨by rfl, ?yt114⟩) hH0 ?_
      case yt114 => intro w hSw; obtain ⟨hq0, hq1, hq2, hq3, hq4, hq5, hq6, hq7, hq8, hq9, hq10⟩ := hSw; go_simp; try with_reducible rfl
      try simp only [Act.put, List.setIfInBounds_toArray, List.set_cons_zero, List.set_cons_succ]
      refine takeH (i := 5) (d := 120) (v := ?_) rfl rfl (by kernel_rfl) (by kernel_rfl) (by kernel_rfl) (fun _ _ _ h => h) (Or.inl ⟨by rfl, ?yt115⟩) hH0 ?_
      case yt115 => intro w hSw; obtain ⟨hq0, hq1, hq2, hq3, hq4, hq5, hq6, hq7, hq8, hq9, hq10⟩ := hSw; go_simp; try with_reducible rfl
      try simp only [Act.put, List.setIfInBounds_toArray, List.set_cons_zero, List.set_cons_succ]
      refine wpAnyH_ready (rs := [2]) (by kernel_rfl) (by simp) ?_
      refine AllReadyH.cons rfl (fun K hK => ?_) AllReadyH.nil
      go_simp
      refine (HO2.out _ (HX11.out.2.2.trans (hH0.2.2.2.2.2.2.2.2.2.2.mono HX11.out.2.2.size))).mono ?_
      rintro e w' ⟨⟨x2, rfl, hx2⟩, hb⟩
      go_wp2_with fail
      refine hK.out _ _ (⟨cell_kept hb hH0.1, cell_kept hb hH0.2.1, cell_kept hb hH0.2.2.1, cell_kept hb hH0.2.2.2.1, cell_kept hb hH0.2.2.2.2.1, cell_kept hb hH0.2.2.2.2.2.1, cell_kept hb hH0.2.2.2.2.2.2.1, cell_kept hb hH0.2.2.2.2.2.2.2.1, cell_kept hb hH0.2.2.2.2.2.2.2.2.1, cell_kept hb hH0.2.2.2.2.2.2.2.2.2.1, hH0.2.2.2.2.2.2.2.2.2.2.trans (hb.mono hH0.2.2.2.2.2.2.2.2.2.2.size)⟩) (fun hH1 => ?_)
      clear hK K hb hH0
      try simp only [Act.put, List.setIfInBounds_toArray, List.set_cons_zero, List.set_cons_succ]
      have HX2V := Lib.hid (hx2.mono (S' := aB) (fun _ _ => trivial))
      clear hx2
      refine wpAnyH_ready (rs := [3]) (by kernel_rfl) (by simp) ?_
      refine AllReadyH.cons rfl (fun K hK => ?_) AllReadyH.nil
      go_simp
      refine (HSM.out _ _ x2 (HV11.out.below hH1.2.2.2.2.2.2.2.2.2.2) HX2V.out).mono ?_
      rintro e w' ⟨⟨r, rfl, hr⟩, hb⟩
      go_wp2_with fail
      refine hK.out _ _ (⟨cell_kept hb hH1.1, cell_kept hb hH1.2.1, cell_kept hb hH1.2.2.1, cell_kept hb hH1.2.2.2.1, cell_kept hb hH1.2.2.2.2.1, cell_kept hb hH1.2.2.2.2.2.1, cell_kept hb hH1.2.2.2.2.2.2.1, cell_kept hb hH1.2.2.2.2.2.2.2.1, cell_kept hb hH1.2.2.2.2.2.2.2.2.1, cell_kept hb hH1.2.2.2.2.2.2.2.2.2.1, hH1.2.2.2.2.2.2.2.2.2.2.trans (hb.mono hH1.2.2.2.2.2.2.2.2.2.2.size)⟩) (fun hH2 => ?_)
      clear hK K hb hH1
      try simp only [Act.put, List.setIfInBounds_toArray, List.set_cons_zero, List.set_cons_succ]
      have hrs : r = sv := Bool.eq_iff_iff.2 (hr.trans HSI.out)
      subst hrs
      clear hr HX2V
      refine wpAnyH_ready (rs := [6]) (by kernel_rfl) (by simp) ?_
      refine AllReadyH.cons rfl (fun K hK => ?_) AllReadyH.nil
      go_simp
      refine (HRS.out _ (HX11.out.2.2.trans (hH2.2.2.2.2.2.2.2.2.2.2.mono HX11.out.2.2.size))).mono ?_
      rintro e w' ⟨rfl, hb⟩
      go_wp2_with fail
      refine hK.out _ _ (⟨cell_kept hb hH2.1, cell_kept hb hH2.2.1, cell_kept hb hH2.2.2.1, cell_kept hb hH2.2.2.2.1, cell_kept hb hH2.2.2.2.2.1, cell_kept hb hH2.2.2.2.2.2.1, cell_kept hb hH2.2.2.2.2.2.2.1, cell_kept hb hH2.2.2.2.2.2.2.2.1, cell_kept hb hH2.2.2.2.2.2.2.2.2.1, cell_kept hb hH2.2.2.2.2.2.2.2.2.2.1, hH2.2.2.2.2.2.2.2.2.2.2.trans (hb.mono hH2.2.2.2.2.2.2.2.2.2.2.size)⟩) (fun hH3 => ?_)
      clear hK K hb hH2
      try simp only [Act.put, List.setIfInBounds_toArray, List.set_cons_zero, List.set_cons_succ]
      refine takeH (i := 7) (d := 122) (v := ?_) rfl rfl (by kernel_rfl) (by kernel_rfl) (by kernel_rfl) (fun _ _ _ h => h) (Or.inl ⟨by rfl, ?yt117⟩) hH3 ?_
      case yt117 => intro w hSw; obtain ⟨hq0, hq1, hq2, hq3, hq4, hq5, hq6, hq7, hq8, hq9, hq10⟩ := hSw; go_simp; try with_reducible rfl
      try simp only [Act.put, List.setIfInBounds_toArray, List.set_cons_zero, List.set_cons_succ]
      refine takeH (i := 8) (d := 123) (v := ?_) rfl rfl (by kernel_rfl) (by kernel_rfl) (by kernel_rfl) (fun _ _ _ h => h) (Or.inl ⟨by rfl, ?yt118⟩) hH3 ?_
      case yt118 => intro w hSw; obtain ⟨hq0, hq1, hq2, hq3, hq4, hq5, hq6, hq7, hq8, hq9, hq10⟩ := hSw; go_simp; try with_reducible rfl
      try simp only [Act.put, List.setIfInBounds_toArray, List.set_cons_zero, List.set_cons_succ]
      refine takeH (i := 9) (d := 124) (v := ?_) rfl rfl (by kernel_rfl) (by kernel_rfl) (by kernel_rfl) (fun _ _ _ h => h) (Or.inl ⟨by rfl, ?yt119⟩) hH3 ?_
      case yt119 => intro w hSw; obtain ⟨hq0, hq1, hq2, hq3, hq4, hq5, hq6, hq7, hq8, hq9, hq10⟩ := hSw; go_simp; try with_reducible rfl
      try simp only [Act.put, List.setIfInBounds_toArray, List.set_cons_zero, List.set_cons_succ]
      refine takeH (i := 10) (d := 125) (v := ?_) rfl rfl (by kernel_rfl) (by kernel_rfl) (by kernel_rfl) (fun _ _ _ h => h) (Or.inl ⟨by rfl, ?yt1110⟩) hH3 ?_
      case yt1110 => intro w hSw; obtain ⟨hq0, hq1, hq2, hq3, hq4, hq5, hq6, hq7, hq8, hq9, hq10⟩ := hSw; go_simp; try with_reducible rfl
      try simp only [Act.put, List.setIfInBounds_toArray, List.set_cons_zero, List.set_cons_succ]
      refine takeH (i := 11) (d := 126) (v := ?_) rfl rfl (by kernel_rfl) (by kernel_rfl) (by kernel_rfl) (fun _ _ _ h => h) (Or.inl ⟨by rfl, ?yt1111⟩) hH3 ?_
      case yt1111 => intro w hSw; obtain ⟨hq0, hq1, hq2, hq3, hq4, hq5, hq6, hq7, hq8, hq9, hq10⟩ := hSw; go_simp; try with_reducible rfl
      try simp only [Act.put, List.setIfInBounds_toArray, List.set_cons_zero, List.set_cons_succ]
      refine takeH (i := 12) (d := 127) (v := ?_) rfl rfl (by kernel_rfl) (by kernel_rfl) (by kernel_rfl) (fun _ _ _ h => h) (Or.inl ⟨by rfl, ?yt1112⟩) hH3 ?_
      case yt1112 => intro w hSw; obtain ⟨hq0, hq1, hq2, hq3, hq4, hq5, hq6, hq7, hq8, hq9, hq10⟩ := hSw; go_simp; try with_reducible rfl
      try simp only [Act.put, List.setIfInBounds_toArray, List.set_cons_zero, List.set_cons_succ]
      refine takeH (i := 13) (d := 128) (v := undef) rfl rfl (by kernel_rfl) (by kernel_rfl) (by kernel_rfl) (fun _ _ _ h => h) (Or.inr ⟨by rfl, rfl⟩) hH3 ?_
      try simp only [Act.put, List.setIfInBounds_toArray, List.set_cons_zero, List.set_cons_succ]
      refine takeH (i := 15) (d := 130) (v := undef) rfl rfl (by kernel_rfl) (by kernel_rfl) (by kernel_rfl) (fun _ _ _ h => h) (Or.inr ⟨by rfl, rfl⟩) hH3 ?_
      try simp only [Act.put, List.setIfInBounds_toArray, List.set_cons_zero, List.set_cons_succ]
      refine takeH (i := 16) (d := 131) (v := undef) rfl rfl (by kernel_rfl) (by kernel_rfl) (by kernel_rfl) (fun _ _ _ h => h) (Or.inr ⟨by rfl, rfl⟩) hH3 ?_
      try simp only [Act.put, List.setIfInBounds_toArray, List.set_cons_zero, List.set_cons_succ]
      refine takeH (i := 14) (d := 129) (v := undef) rfl rfl (by kernel_rfl) (by kernel_rfl) (by kernel_rfl) (fun _ _ _ h => h) (Or.inr ⟨by rfl, rfl⟩) hH3 ?_
      try simp only [Act.put, List.setIfInBounds_toArray, List.set_cons_zero, List.set_cons_succ]
      refine takeH (i := 17) (d := 132) (v := undef) rfl rfl (by kernel_rfl) (by kernel_rfl) (by kernel_rfl) (fun _ _ _ h => h) (Or.inr ⟨by rfl, rfl⟩) hH3 ?_
      try simp only [Act.put, List.setIfInBounds_toArray, List.set_cons_zero, List.set_cons_succ]
      refine takeH (i := 18) (d := 133) (v := ?_) rfl rfl (by kernel_rfl) (by kernel_rfl) (by kernel_rfl) (fun _ _ _ h => h) (Or.inl ⟨by rfl, ?yt1118⟩) hH3 ?_
      case yt1118 => intro w hSw; obtain ⟨hq0, hq1, hq2, hq3, hq4, hq5, hq6, hq7, hq8, hq9, hq10⟩ := hSw; go_simp; try with_reducible rfl
      try simp only [Act.put, List.setIfInBounds_toArray, List.set_cons_zero, List.set_cons_succ]
      refine takeH (i := 19) (d := 134) (v := ?_) rfl rfl (by kernel_rfl) (by kernel_rfl) (by kernel_rfl) (fun _ _ _ h => h) (Or.inl ⟨by rfl, ?yt1119⟩) hH3 ?_
      case yt1119 => intro w hSw; obtain ⟨hq0, hq1, hq2, hq3, hq4, hq5, hq6, hq7, hq8, hq9, hq10⟩ := hSw; go_simp; try with_reducible rfl
      try simp only [Act.put, List.setIfInBounds_toArray, List.set_cons_zero, List.set_cons_succ]
      refine takeH (i := 20) (d := 135) (v := ?_) rfl rfl (by kernel_rfl) (by kernel_rfl) (by kernel_rfl) (fun _ _ _ h => h) (Or.inl ⟨by rfl, ?yt1120⟩) hH3 ?_
      case yt1120 => intro w hSw; obtain ⟨hq0, hq1, hq2, hq3, hq4, hq5, hq6, hq7, hq8, hq9, hq10⟩ := hSw; go_simp; try with_reducible rfl
      try simp only [Act.put, List.setIfInBounds_toArray, List.set_cons_zero, List.set_cons_succ]
      refine wpAnyH_ready (rs := [21]) (by kernel_rfl) (by simp) ?_
      refine AllReadyH.cons rfl (fun K hK => ?_) AllReadyH.nil
      go_simp
      refine (HA.out _ (HX11.out.2.2.trans (hH3.2.2.2.2.2.2.2.2.2.2.mono HX11.out.2.2.size))).mono ?_
      rintro e w' ⟨rfl, hb⟩
      go_wp2_with fail
      refine hK.out _ _ (⟨cell_kept hb hH3.1, cell_kept hb hH3.2.1, cell_kept hb hH3.2.2.1, cell_kept hb hH3.2.2.2.1, cell_kept hb hH3.2.2.2.2.1, cell_kept hb hH3.2.2.2.2.2.1, cell_kept hb hH3.2.2.2.2.2.2.1, cell_kept hb hH3.2.2.2.2.2.2.2.1, cell_kept hb hH3.2.2.2.2.2.2.2.2.1, cell_kept hb hH3.2.2.2.2.2.2.2.2.2.1, hH3.2.2.2.2.2.2.2.2.2.2.trans (hb.mono hH3.2.2.2.2.2.2.2.2.2.2.size)⟩) (fun hH4 => ?_)
      clear hK K hb hH3
      try simp only [Act.put, List.setIfInBounds_toArray, List.set_cons_zero, List.set_cons_succ]
      refine takeH (i := 22) (d := 137) (v := ?_) rfl rfl (by kernel_rfl) (by kernel_rfl) (by kernel_rfl) (fun _ _ _ h => h) (Or.inl ⟨by rfl, ?yt1122⟩) hH4 ?_
      case yt1122 => intro w hSw; obtain ⟨hq0, hq1, hq2, hq3, hq4, hq5, hq6, hq7, hq8, hq9, hq10⟩ := hSw; go_simp; try with_reducible rfl
      try simp only [Act.put, List.setIfInBounds_toArray, List.set_cons_zero, List.set_cons_succ]
      refine takeH (i := 23) (d := 6) (v := ?_) rfl rfl (by kernel_rfl) (by kernel_rfl) (by kernel_rfl) (fun _ _ _ h => h) (Or.inl ⟨by rfl, ?yt1123⟩) hH4 ?_
      case yt1123 => intro w hSw; obtain ⟨hq0, hq1, hq2, hq3, hq4, hq5, hq6, hq7, hq8, hq9, hq10⟩ := hSw; go_simp; try with_reducible rfl
      try simp only [Act.put, List.setIfInBounds_toArray, List.set_cons_zero, List.set_cons_succ]
      refine wpAnyH_done (by kernel_rfl) ?_ _
      have HFIN := Lib.hid hH4
      clear hH4
      go_wp2_with fail
      go_ret
      exact ⟨rfl, HX11.out.2.2.trans (HFIN.out.2.2.2.2.2.2.2.2.2.2.mono HX11.out.2.2.size)⟩
    · have hbf : bf = false := by simpa using hbf
      obtain rfl := HYN.out hbf
      subst hbf
      have HX11 := HX10
      have HV11 := HV10
      clear HX10 HV10 HB10 HZ10 HY10 HY9
      obtain ⟨⟨b0, b1, b2, b3, b4⟩, ⟨c0, c1, c2, c3, c4⟩, hbw⟩ := HX11.out
      clear hbw
      go_upto_region 13 with fail
      have HS011 : w10.drew.cell? ⟨w.heap.size, 0, none⟩ = some (.int .u8 k) ∧ w10.drew.cell? ⟨w.heap.size, 1, none⟩ = some (.int .i64 n) ∧ w10.drew.cell? ⟨w.heap.size, 2, none⟩ = some (.string s) ∧ w10.drew.cell? ⟨w.heap.size, 3, none⟩ = some (nv) ∧ w10.drew.cell? ⟨w.heap.size, 4, none⟩ = some (kv) ∧ w10.drew.cell? ⟨w.heap.size + 1, 0, none⟩ = some (.int .u8 k') ∧ w10.drew.cell? ⟨w.heap.size + 1, 1, none⟩ = some (.int .i64 n') ∧ w10.drew.cell? ⟨w.heap.size + 1, 2, none⟩ = some (.string s') ∧ w10.drew.cell? ⟨w.heap.size + 1, 3, none⟩ = some (nv') ∧ w10.drew.cell? ⟨w.heap.size + 1, 4, none⟩ = some (kv') ∧ Below w10.heap.size w10 w10.drew := ⟨b0, b1, b2, b3, b4, c0, c1, c2, c3, c4, (Below.refl _ w10).drew⟩
      clear b0 b1 b2 b3 b4 c0 c1 c2 c3 c4
      refine wp_region_held_drew (S := fun w' => w'.cell? ⟨w.heap.size, 0, none⟩ = some (.int .u8 k) ∧ w'.cell? ⟨w.heap.size, 1, none⟩ = some (.int .i64 n) ∧ w'.cell? ⟨w.heap.size, 2, none⟩ = some (.string s) ∧ w'.cell? ⟨w.heap.size, 3, none⟩ = some (nv) ∧ w'.cell? ⟨w.heap.size, 4, none⟩ = some (kv) ∧ w'.cell? ⟨w.heap.size + 1, 0, none⟩ = some (.int .u8 k') ∧ w'.cell? ⟨w.heap.size + 1, 1, none⟩ = some (.int .i64 n') ∧ w'.cell? ⟨w.heap.size + 1, 2, none⟩ = some (.string s') ∧ w'.cell? ⟨w.heap.size + 1, 3, none⟩ = some (nv') ∧ w'.cell? ⟨w.heap.size + 1, 4, none⟩ = some (kv') ∧ Below w10.heap.size w10 w') (by kernel_rfl) HS011 (fun hH0 => ?_)
      refine takeH (i := 0) (d := 115) (v := ?_) rfl rfl (by kernel_rfl) (by kernel_rfl) (by kernel_rfl) (fun _ _ _ h => h) (Or.inl ⟨by rfl, ?yt110⟩) hH0 ?_
      case yt110 => intro w hSw; obtain ⟨hq0, hq1, hq2, hq3, hq4, hq5, hq6, hq7, hq8, hq9, hq10⟩ := hSw; go_simp; try with_reducible rfl
      try simp only [Act.put, List.setIfInBounds_toArray, List.set_cons_zero, List.set_cons_succ]
      refine takeH (i := 1) (d := 116) (v := ?_) rfl rfl (by kernel_rfl) (by kernel_rfl) (by kernel_rfl) (fun _ _ _ h => h) (Or.inl ⟨by rfl, ?yt111⟩) hH0 ?_
      case yt111 => intro w hSw; obtain ⟨hq0, hq1, hq2, hq3, hq4, hq5, hq6, hq7, hq8, hq9, hq10⟩ := hSw; go_simp; try with_reducible rfl
      try simp only [Act.put, List.setIfInBounds_toArray, List.set_cons_zero, List.set_cons_succ]
      refine takeH (i := 4) (d := 119) (v := ?_) rfl rfl (by kernel_rfl) (by kernel_rfl) (by kernel_rfl) (fun _ _ _ h => h) (Or.inl ⟨by rfl, ?yt114⟩) hH0 ?_
      case yt114 => intro w hSw; obtain ⟨hq0, hq1, hq2, hq3, hq4, hq5, hq6, hq7, hq8, hq9, hq10⟩ := hSw; go_simp; try with_reducible rfl
      try simp only [Act.put, List.setIfInBounds_toArray, List.set_cons_zero, List.set_cons_succ]
      refine takeH (i := 5) (d := 120) (v := ?_) rfl rfl (by kernel_rfl) (by kernel_rfl) (by kernel_rfl) (fun _ _ _ h => h) (Or.inl ⟨by rfl, ?yt115⟩) hH0 ?_
      case yt115 => intro w hSw; obtain ⟨hq0, hq1, hq2, hq3, hq4, hq5, hq6, hq7, hq8, hq9, hq10⟩ := hSw; go_simp; try with_reducible rfl
      try simp only [Act.put, List.setIfInBounds_toArray, List.set_cons_zero, List.set_cons_succ]
      refine wpAnyH_ready (rs := [2]) (by kernel_rfl) (by simp) ?_
      refine AllReadyH.cons rfl (fun K hK => ?_) AllReadyH.nil
      go_simp
      refine (HO2.out _ (HX11.out.2.2.trans (hH0.2.2.2.2.2.2.2.2.2.2.mono HX11.out.2.2.size))).mono ?_
      rintro e w' ⟨⟨x2, rfl, hx2⟩, hb⟩
      go_wp2_with fail
      refine hK.out _ _ (⟨cell_kept hb hH0.1, cell_kept hb hH0.2.1, cell_kept hb hH0.2.2.1, cell_kept hb hH0.2.2.2.1, cell_kept hb hH0.2.2.2.2.1, cell_kept hb hH0.2.2.2.2.2.1, cell_kept hb hH0.2.2.2.2.2.2.1, cell_kept hb hH0.2.2.2.2.2.2.2.1, cell_kept hb hH0.2.2.2.2.2.2.2.2.1, cell_kept hb hH0.2.2.2.2.2.2.2.2.2.1, hH0.2.2.2.2.2.2.2.2.2.2.trans (hb.mono hH0.2.2.2.2.2.2.2.2.2.2.size)⟩) (fun hH1 => ?_)
      clear hK K hb hH0
      try simp only [Act.put, List.setIfInBounds_toArray, List.set_cons_zero, List.set_cons_succ]
      have HX2V := Lib.hid (hx2.mono (S' := aB) (fun _ _ => trivial))
      clear hx2
      refine wpAnyH_ready (rs := [3]) (by kernel_rfl) (by simp) ?_
      refine AllReadyH.cons rfl (fun K hK => ?_) AllReadyH.nil
      go_simp
      refine (HSM.out _ _ x2 (HV11.out.below hH1.2.2.2.2.2.2.2.2.2.2) HX2V.out).mono ?_
      rintro e w' ⟨⟨r, rfl, hr⟩, hb⟩
      go_wp2_with fail
      refine hK.out _ _ (⟨cell_kept hb hH1.1, cell_kept hb hH1.2.1, cell_kept hb hH1.2.2.1, cell_kept hb hH1.2.2.2.1, cell_kept hb hH1.2.2.2.2.1, cell_kept hb hH1.2.2.2.2.2.1, cell_kept hb hH1.2.2.2.2.2.2.1, cell_kept hb hH1.2.2.2.2.2.2.2.1, cell_kept hb hH1.2.2.2.2.2.2.2.2.1, cell_kept hb hH1.2.2.2.2.2.2.2.2.2.1, hH1.2.2.2.2.2.2.2.2.2.2.trans (hb.mono hH1.2.2.2.2.2.2.2.2.2.2.size)⟩) (fun hH2 => ?_)
      clear hK K hb hH1
      try simp only [Act.put, List.setIfInBounds_toArray, List.set_cons_zero, List.set_cons_succ]
      have hrs : r = sv := Bool.eq_iff_iff.2 (hr.trans HSI.out)
      subst hrs
      clear hr HX2V
      refine wpAnyH_ready (rs := [6]) (by kernel_rfl) (by simp) ?_
      refine AllReadyH.cons rfl (fun K hK => ?_) AllReadyH.nil
      go_simp
      refine (HRS.out _ (HX11.out.2.2.trans (hH2.2.2.2.2.2.2.2.2.2.2.mono HX11.out.2.2.size))).mono ?_
      rintro e w' ⟨rfl, hb⟩
      go_wp2_with fail
      refine hK.out _ _ (⟨cell_kept hb hH2.1, cell_kept hb hH2.2.1, cell_kept hb hH2.2.2.1, cell_kept hb hH2.2.2.2.1, cell_kept hb hH2.2.2.2.2.1, cell_kept hb hH2.2.2.2.2.2.1, cell_kept hb hH2.2.2.2.2.2.2.1, cell_kept hb hH2.2.2.2.2.2.2.2.1, cell_kept hb hH2.2.2.2.2.2.2.2.2.1, cell_kept hb hH2.2.2.2.2.2.2.2.2.2.1, hH2.2.2.2.2.2.2.2.2.2.2.trans (hb.mono hH2.2.2.2.2.2.2.2.2.2.2.size)⟩) (fun hH3 => ?_)
      clear hK K hb hH2
      try simp only [Act.put, List.setIfInBounds_toArray, List.set_cons_zero, List.set_cons_succ]
      refine takeH (i := 7) (d := 122) (v := ?_) rfl rfl (by kernel_rfl) (by kernel_rfl) (by kernel_rfl) (fun _ _ _ h => h) (Or.inl ⟨by rfl, ?yt117⟩) hH3 ?_
      case yt117 => intro w hSw; obtain ⟨hq0, hq1, hq2, hq3, hq4, hq5, hq6, hq7, hq8, hq9, hq10⟩ := hSw; go_simp; try with_reducible rfl
      try simp only [Act.put, List.setIfInBounds_toArray, List.set_cons_zero, List.set_cons_succ]
      refine takeH (i := 8) (d := 123) (v := ?_) rfl rfl (by kernel_rfl) (by kernel_rfl) (by kernel_rfl) (fun _ _ _ h => h) (Or.inl ⟨by rfl, ?yt118⟩) hH3 ?_
      case yt118 => intro w hSw; obtain ⟨hq0, hq1, hq2, hq3, hq4, hq5, hq6, hq7, hq8, hq9, hq10⟩ := hSw; go_simp; try with_reducible rfl
      try simp only [Act.put, List.setIfInBounds_toArray, List.set_cons_zero, List.set_cons_succ]
      refine takeH (i := 9) (d := 124) (v := ?_) rfl rfl (by kernel_rfl) (by kernel_rfl) (by kernel_rfl) (fun _ _ _ h => h) (Or.inl ⟨by rfl, ?yt119⟩) hH3 ?_
      case yt119 => intro w hSw; obtain ⟨hq0, hq1, hq2, hq3, hq4, hq5, hq6, hq7, hq8, hq9, hq10⟩ := hSw; go_simp; try with_reducible rfl
      try simp only [Act.put, List.setIfInBounds_toArray, List.set_cons_zero, List.set_cons_succ]
      refine takeH (i := 10) (d := 125) (v := ?_) rfl rfl (by kernel_rfl) (by kernel_rfl) (by kernel_rfl) (fun _ _ _ h => h) (Or.inl ⟨by rfl, ?yt1110⟩) hH3 ?_
      case yt1110 => intro w hSw; obtain ⟨hq0, hq1, hq2, hq3, hq4, hq5, hq6, hq7, hq8, hq9, hq10⟩ := hSw; go_simp; try with_reducible rfl
      try simp only [Act.put, List.setIfInBounds_toArray, List.set_cons_zero, List.set_cons_succ]
      refine takeH (i := 11) (d := 126) (v := ?_) rfl rfl (by kernel_rfl) (by kernel_rfl) (by kernel_rfl) (fun _ _ _ h => h) (Or.inl ⟨by rfl, ?yt1111⟩) hH3 ?_
      case yt1111 => intro w hSw; obtain ⟨hq0, hq1, hq2, hq3, hq4, hq5, hq6, hq7, hq8, hq9, hq10⟩ := hSw; go_simp; try with_reducible rfl
      try simp only [Act.put, List.setIfInBounds_toArray, List.set_cons_zero, List.set_cons_succ]
      refine takeH (i := 12) (d := 127) (v := ?_) rfl rfl (by kernel_rfl) (by kernel_rfl) (by kernel_rfl) (fun _ _ _ h => h) (Or.inl ⟨by rfl, ?yt1112⟩) hH3 ?_
      case yt1112 => intro w hSw; obtain ⟨hq0, hq1, hq2, hq3, hq4, hq5, hq6, hq7, hq8, hq9, hq10⟩ := hSw; go_simp; try with_reducible rfl
      try simp only [Act.put, List.setIfInBounds_toArray, List.set_cons_zero, List.set_cons_succ]
      refine takeH (i := 13) (d := 128) (v := undef) rfl rfl (by kernel_rfl) (by kernel_rfl) (by kernel_rfl) (fun _ _ _ h => h) (Or.inr ⟨by rfl, rfl⟩) hH3 ?_
      try simp only [Act.put, List.setIfInBounds_toArray, List.set_cons_zero, List.set_cons_succ]
      refine takeH (i := 15) (d := 130) (v := undef) rfl rfl (by kernel_rfl) (by kernel_rfl) (by kernel_rfl) (fun _ _ _ h => h) (Or.inr ⟨by rfl, rfl⟩) hH3 ?_
      try simp only [Act.put, List.setIfInBounds_toArray, List.set_cons_zero, List.set_cons_succ]
      refine takeH (i := 16) (d := 131) (v := undef) rfl rfl (by kernel_rfl) (by kernel_rfl) (by kernel_rfl) (fun _ _ _ h => h) (Or.inr ⟨by rfl, rfl⟩) hH3 ?_
      try simp only [Act.put, List.setIfInBounds_toArray, List.set_cons_zero, List.set_cons_succ]
      refine takeH (i := 14) (d := 129) (v := undef) rfl rfl (by kernel_rfl) (by kernel_rfl) (by kernel_rfl) (fun _ _ _ h => h) (Or.inr ⟨by rfl, rfl⟩) hH3 ?_
      try simp only [Act.put, List.setIfInBounds_toArray, List.set_cons_zero, List.set_cons_succ]
      refine takeH (i := 17) (d := 132) (v := undef) rfl rfl (by kernel_rfl) (by kernel_rfl) (by kernel_rfl) (fun _ _ _ h => h) (Or.inr ⟨by rfl, rfl⟩) hH3 ?_
      try simp only [Act.put, List.setIfInBounds_toArray, List.set_cons_zero, List.set_cons_succ]
      refine takeH (i := 18) (d := 133) (v := ?_) rfl rfl (by kernel_rfl) (by kernel_rfl) (by kernel_rfl) (fun _ _ _ h => h) (Or.inl ⟨by rfl, ?yt1118⟩) hH3 ?_
      case yt1118 => intro w hSw; obtain ⟨hq0, hq1, hq2, hq3, hq4, hq5, hq6, hq7, hq8, hq9, hq10⟩ := hSw; go_simp; try with_reducible rfl
      try simp only [Act.put, List.setIfInBounds_toArray, List.set_cons_zero, List.set_cons_succ]
      refine takeH (i := 19) (d := 134) (v := ?_) rfl rfl (by kernel_rfl) (by kernel_rfl) (by kernel_rfl) (fun _ _ _ h => h) (Or.inl ⟨by rfl, ?yt1119⟩) hH3 ?_
      case yt1119 => intro w hSw; obtain ⟨hq0, hq1, hq2, hq3, hq4, hq5, hq6, hq7, hq8, hq9, hq10⟩ := hSw; go_simp; try with_reducible rfl
      try simp only [Act.put, List.setIfInBounds_toArray, List.set_cons_zero, List.set_cons_succ]
      refine takeH (i := 20) (d := 135) (v := ?_) rfl rfl (by kernel_rfl) (by kernel_rfl) (by kernel_rfl) (fun _ _ _ h => h) (Or.inl ⟨by rfl, ?yt1120⟩) hH3 ?_
      case yt1120 => intro w hSw; obtain ⟨hq0, hq1, hq2, hq3, hq4, hq5, hq6, hq7, hq8, hq9, hq10⟩ := hSw; go_simp; try with_reducible rfl
      try simp only [Act.put, List.setIfInBounds_toArray, List.set_cons_zero, List.set_cons_succ]
      refine wpAnyH_ready (rs := [21]) (by kernel_rfl) (by simp) ?_
      refine AllReadyH.cons rfl (fun K hK => ?_) AllReadyH.nil
      go_simp
      refine (HA.out _ (HX11.out.2.2.trans (hH3.2.2.2.2.2.2.2.2.2.2.mono HX11.out.2.2.size))).mono ?_
      rintro e w' ⟨rfl, hb⟩
      go_wp2_with fail
      refine hK.out _ _ (⟨cell_kept hb hH3.1, cell_kept hb hH3.2.1, cell_kept hb hH3.2.2.1, cell_kept hb hH3.2.2.2.1, cell_kept hb hH3.2.2.2.2.1, cell_kept hb hH3.2.2.2.2.2.1, cell_kept hb hH3.2.2.2.2.2.2.1, cell_kept hb hH3.2.2.2.2.2.2.2.1, cell_kept hb hH3.2.2.2.2.2.2.2.2.1, cell_kept hb hH3.2.2.2.2.2.2.2.2.2.1, hH3.2.2.2.2.2.2.2.2.2.2.trans (hb.mono hH3.2.2.2.2.2.2.2.2.2.2.size)⟩) (fun hH4 => ?_)
      clear hK K hb hH3
      try simp only [Act.put, List.setIfInBounds_toArray, List.set_cons_zero, List.set_cons_succ]
      refine takeH (i := 22) (d := 137) (v := ?_) rfl rfl (by kernel_rfl) (by kernel_rfl) (by kernel_rfl) (fun _ _ _ h => h) (Or.inl ⟨by rfl, ?yt1122⟩) hH4 ?_
      case yt1122 => intro w hSw; obtain ⟨hq0, hq1, hq2, hq3, hq4, hq5, hq6, hq7, hq8, hq9, hq10⟩ := hSw; go_simp; try with_reducible rfl
      try simp only [Act.put, List.setIfInBounds_toArray, List.set_cons_zero, List.set_cons_succ]
      refine takeH (i := 23) (d := 6) (v := ?_) rfl rfl (by kernel_rfl) (by kernel_rfl) (by kernel_rfl) (fun _ _ _ h => h) (Or.inl ⟨by rfl, ?yt1123⟩) hH4 ?_
      case yt1123 => intro w hSw; obtain ⟨hq0, hq1, hq2, hq3, hq4, hq5, hq6, hq7, hq8, hq9, hq10⟩ := hSw; go_simp; try with_reducible rfl
      try simp only [Act.put, List.setIfInBounds_toArray, List.set_cons_zero, List.set_cons_succ]
      refine wpAnyH_done (by kernel_rfl) ?_ _
      have HFIN := Lib.hid hH4
      clear hH4
      go_wp2_with fail
      go_ret
      exact ⟨rfl, HX11.out.2.2.trans (HFIN.out.2.2.2.2.2.2.2.2.2.2.mono HX11.out.2.2.size)⟩
