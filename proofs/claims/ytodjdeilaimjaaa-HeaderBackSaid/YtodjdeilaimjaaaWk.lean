/- The walk of HeaderBack. -/
import Derived.Test.YtodjdeilaimjaaaWt
namespace Go.Proofs.Ytodjdeilaimjaaa
open Go.RowKit
set_option linter.unusedVariables false
set_option linter.unusedSimpArgs false
theorem str_bl (t : ByteArray) : str (bl t) = t := by
  apply ByteArray.ext
  apply Array.ext'
  rw [str_list, bl, List.map_map]
  conv => rhs; rw [← List.map_id t.data.toList]
  apply List.map_congr_left
  intro c _
  simp [Function.comp]
theorem bl_take (t : ByteArray) (n : Nat) : bl (t.extract 0 n) = (bl t).take n := by
  unfold bl
  rw [extract_list, List.drop_zero, Nat.sub_zero, List.map_take]
theorem back_bytes (t : ByteArray) (Y : Hd) (h : decH (bl t) = (Y, 0)) : MayH Y ∧ encH Y = (bl (t.extract 0 127), 0) := by
  obtain ⟨hm, hc, he⟩ := enc_dec (bl t) Y (bl_byts t) h
  exact ⟨hm, by rw [encH, if_pos hc, bl_take, he]⟩
theorem str_nil : str [] = ⟨#[]⟩ := rfl
theorem eq_self_str (s : ByteArray) : (s.toList == s.toList) = true := by simp
theorem back_long (X : Hd) (t : ByteArray) (w : World) (h : 200 < t.size) : Calls Try.prog 5 #[.agg (cH X), .string t] w fun e w' => e = .returned (.bool true) ∧ Below w.heap.size w w' := by
  have hd : decide (200 < (t.size : Int)) = true := by simp; omega
  go_enter Try.func5, Try.ntmps5
  go_wp2_with fail
  refine (awake_any _).mono ?_
  rintro e w1 ⟨rfl, hb⟩
  have u1 : Below w.heap.size w w1 := Below.trans (by go_grown) (hb.mono (by rw [World.size_alloc]; omega))
  clear hb
  go_wp2_with fail
  go_ret
  exact ⟨rfl, u1⟩
set_option maxRecDepth 20000 in
theorem back_bad (X : Hd) (t : ByteArray) (w : World) (hm : MayH X) (h : ¬ 200 < t.size) (hc : ckH X ≠ 0) : Calls Try.prog 5 #[.agg (cH X), .string t] w fun e w' => e = .returned (.bool true) ∧ Below w.heap.size w w' := by
  have HE := Lib.hid (fun W => encode_any X W hm)
  have HC := Lib.hid (fun W => check_any X W hm)
  rw [encH, if_neg hc] at HE
  simp only [str_nil] at HE
  obtain ⟨r, hr⟩ : ∃ r, ckH X = r := ⟨_, rfl⟩
  rw [hr] at HE HC hc
  have hne : (r != 0) = true := by simp only [bne_iff_ne, ne_eq]; exact hc
  have HO := Lib.hid (fun W => own_any X W)
  have HA := Lib.hid awake_any
  have H0 := HAt.made w X 26
  have hd : decide (200 < (t.size : Int)) = false := by simp; omega
  clear hr hm hc h
  go_enter Try.func5, Try.ntmps5
  go_wp2_with (first | (refine rload_head (by rfl) _ rfl _ rfl _ X (by assumption) ?_) | fail)
  refine (HO.out _).mono ?_
  rintro e w1 ⟨rfl, hb⟩
  have H1 := H0.below hb (by rw [World.size_alloc]; omega)
  have u1 : Below w.heap.size w w1 := Below.trans (by go_grown) (hb.mono (by rw [World.size_alloc]; omega))
  have HU := Lib.hid u1
  clear hb H0 u1
  go_wp2_with fail
  refine (HE.out _).mono ?_
  rintro e w2 ⟨rfl, hb⟩
  have H2 := H1.later hb
  have HU2 := Lib.hid (HU.out.trans (hb.mono HU.out.size))
  clear hb HU HE H1
  go_wp2_with (first | (refine rload_head (by rfl) _ rfl _ rfl _ X (by assumption) ?_) | fail)
  refine (HO.out _).mono ?_
  rintro e w3 ⟨rfl, hb⟩
  have HU3 := Lib.hid (HU2.out.trans (hb.mono HU2.out.size))
  clear hb HU2 H2
  go_wp2_with fail
  refine (HC.out _).mono ?_
  rintro e w4 ⟨rfl, hb⟩
  have HU4 := Lib.hid (HU3.out.trans (hb.mono HU3.out.size))
  clear hb HU3
  go_wp2_with fail
  refine (HA.out _).mono ?_
  rintro e w5 ⟨rfl, hb⟩
  have u5 := HU4.out.trans (hb.mono HU4.out.size)
  clear hb
  go_wp2_with fail
  go_ret
  exact ⟨rfl, u5⟩
set_option maxRecDepth 20000 in
set_option maxHeartbeats 4000000 in
theorem back_walk (X : Hd) (t : ByteArray) (w : World) (hm : MayH X) (h : ¬ 200 < t.size) (hc : ckH X = 0) : Calls Try.prog 5 #[.agg (cH X), .string t] w fun e w' => e = .returned (.bool true) ∧ Below w.heap.size w w' := by
  have HE := Lib.hid (fun W => encode_any X W hm)
  rw [encH, if_pos hc] at HE
  have hz : (str (bytsH X)).size = 127 := by rw [str_size, bytsH_len X hm hc]
  have hbl := bl_str (bytsH X) (bytsH_byts X)
  have HD : Hid (∀ W, Calls Try.prog 17 #[.string (str (bytsH X) ++ t)] W fun e w' => e = .returned (.tuple #[.agg (cH X), .int .i64 0]) ∧ Below W.heap.size W w') := Lib.hid (fun W => by
    have hd := decode_any (str (bytsH X) ++ t) W (by rw [ByteArray.size_append, hz]; simp [maxLen]; omega)
    rw [bl_append, hbl, dec_enc X _ hm hc] at hd
    exact hd)
  obtain ⟨s, hs⟩ : ∃ s, str (bytsH X) = s := ⟨_, rfl⟩
  rw [hs] at HE HD hz
  have HR := Lib.hid (fun W => decode_any (t ++ s) W (by rw [ByteArray.size_append, hz]; simp [maxLen]; omega))
  have HB := Lib.hid (back_bytes (t ++ s))
  have HO := Lib.hid (fun W => own_any X W)
  have HA := Lib.hid awake_any
  have H0 := HAt.made w X 26
  have hd : decide (200 < (t.size : Int)) = false := by simp; omega
  have hz127 : ((s.size : Int) != 127) = false := by rw [hz]; rfl
  have i1 : s.size ≤ 127 := by omega
  have i2 : t.size ≤ 200 := by omega
  have HZ1 : Hid (127 ≤ (t ++ s).size) := Lib.hid (by rw [ByteArray.size_append]; omega)
  clear hs hm hc h hz hbl
  go_enter Try.func5, Try.ntmps5
  go_wp2_with (first | (refine rload_head (by rfl) _ rfl _ rfl _ X (by assumption) ?_) | fail)
  refine (HO.out _).mono ?_
  rintro e w1 ⟨rfl, hb⟩
  have H1 := H0.below hb (by rw [World.size_alloc]; omega)
  have u1 : Below w.heap.size w w1 := Below.trans (by go_grown) (hb.mono (by rw [World.size_alloc]; omega))
  have HU := Lib.hid u1
  clear hb H0 u1
  go_wp2_with fail
  refine (HE.out _).mono ?_
  rintro e w2 ⟨rfl, hb⟩
  have H2 := Lib.hid (H1.later hb)
  have HU2 := Lib.hid (HU.out.trans (hb.mono HU.out.size))
  clear hb HU HE H1
  go_wp2_with fail
  refine (HD.out _).mono ?_
  rintro e w3 ⟨rfl, hb⟩
  have H3 := Lib.hid (H2.out.later hb)
  have hl3 := H3.out.lt
  have HU3 := Lib.hid (HU2.out.trans (hb.mono HU2.out.size))
  have HZ := HAt.zero w3 32
  clear hb HU2 HD H2
  go_upto_region 7 with (first | (refine store_head (by rfl) _ _ rfl _ rfl X rfl _ zeroH (by assumption) rfl ?_; intro w4 HP) | fail)
  have HS0 := keepT (Below.drew (Below.refl _ _)) ⟨HP.1, HP.keep ((heap_alloc_old hl3).trans H3.out) (by omega), HP.2.2.1 _ _ HU3.out.size (HU3.out.alloc HU3.out.size _)⟩
  obtain ⟨g1, hg1⟩ : ∃ g, w3.heap.size = g := ⟨_, rfl⟩
  rw [hg1] at HS0 ⊢
  have hEq := fun W => eqX X W
  clear hg1 HP HU3 H3 hl3 HZ
  refine wp_region_held_drew (S := fun w' => HAt w' g1 32 X ∧ HAt w' w.heap.size 26 X ∧ Below w.heap.size w w') (by kernel_rfl) HS0 (fun hH0 => ?_)
  refine takeH (i := 0) (d := 44) (v := ?_) rfl rfl (by kernel_rfl) (by kernel_rfl) (by kernel_rfl) (fun _ _ _ h => h) (Or.inl ⟨by rfl, ?y0⟩) hH0 ?_
  case y0 => intro w hSw; go_simp; try with_reducible rfl
  try simp only [Act.put, List.setIfInBounds_toArray, List.set_cons_zero, List.set_cons_succ]
  refine takeH (i := 1) (d := 45) (v := ?_) rfl rfl (by kernel_rfl) (by kernel_rfl) (by kernel_rfl) (fun _ _ _ h => h) (Or.inl ⟨by rfl, ?y1⟩) hH0 ?_
  case y1 => intro w hSw; go_simp; try with_reducible rfl
  try simp only [Act.put, List.setIfInBounds_toArray, List.set_cons_zero, List.set_cons_succ]
  refine takeH (i := 2) (d := 46) (v := ?_) rfl rfl (by kernel_rfl) (by kernel_rfl) (by kernel_rfl) (fun _ _ _ h => h) (Or.inl ⟨by rfl, ?y2⟩) hH0 ?_
  case y2 => intro w hSw; go_simp; try with_reducible rfl
  try simp only [Act.put, List.setIfInBounds_toArray, List.set_cons_zero, List.set_cons_succ]
  refine takeH (i := 3) (d := 47) (v := ?_) rfl rfl (by kernel_rfl) (by kernel_rfl) (by kernel_rfl) (fun _ _ _ h => h) (Or.inl ⟨by rfl, ?y3⟩) hH0 ?_
  case y3 => intro w hSw; go_simp; try with_reducible rfl
  try simp only [Act.put, List.setIfInBounds_toArray, List.set_cons_zero, List.set_cons_succ]
  refine takeH (i := 4) (d := 48) (v := ?_) rfl rfl (by kernel_rfl) (by kernel_rfl) (by kernel_rfl) (fun _ _ _ h => h) (Or.inl ⟨by rfl, ?y4⟩) hH0 ?_
  case y4 => intro w hSw; go_simp; try with_reducible rfl
  try simp only [Act.put, List.setIfInBounds_toArray, List.set_cons_zero, List.set_cons_succ]
  refine takeH (i := 5) (d := 49) (v := ?_) rfl rfl (by kernel_rfl) (by kernel_rfl) (by kernel_rfl) (fun _ _ _ h => h) (Or.inl ⟨by rfl, ?y5⟩) hH0 ?_
  case y5 => intro w hSw; go_simp; try with_reducible rfl
  try simp only [Act.put, List.setIfInBounds_toArray, List.set_cons_zero, List.set_cons_succ]
  refine takeH (i := 6) (d := 50) (v := ?_) rfl rfl (by kernel_rfl) (by kernel_rfl) (by kernel_rfl) (fun _ _ _ h => h) (Or.inl ⟨by rfl, ?y6⟩) hH0 ?_
  case y6 => intro w hSw; go_simp; try with_reducible rfl
  try simp only [Act.put, List.setIfInBounds_toArray, List.set_cons_zero, List.set_cons_succ]
  refine takeH (i := 7) (d := 51) (v := ?_) rfl rfl (by kernel_rfl) (by kernel_rfl) (by kernel_rfl) (fun _ _ _ h => h) (Or.inl ⟨by rfl, ?y7⟩) hH0 ?_
  case y7 => intro w hSw; go_simp; try with_reducible rfl
  try simp only [Act.put, List.setIfInBounds_toArray, List.set_cons_zero, List.set_cons_succ]
  refine takeH (i := 8) (d := 52) rfl rfl (by kernel_rfl) (by kernel_rfl) (by kernel_rfl) (fun _ _ _ h => h) (yieldsIf_head (by rfl) _ rfl _ rfl _ _ (fun _ H => H.1)) hH0 ?_
  try simp only [Act.put, List.setIfInBounds_toArray, List.set_cons_zero, List.set_cons_succ]
  refine takeH (i := 9) (d := 53) rfl rfl (by kernel_rfl) (by kernel_rfl) (by kernel_rfl) (fun _ _ _ h => h) (yieldsIf_rhead (by rfl) _ rfl _ rfl _ _ (fun _ H => H.2.1)) hH0 ?_
  try simp only [Act.put, List.setIfInBounds_toArray, List.set_cons_zero, List.set_cons_succ]
  refine wpAnyH_ready (rs := [10]) (by kernel_rfl) (by simp) ?_
  refine AllReadyH.cons rfl (fun K hK => ?_) AllReadyH.nil
  go_simp
  refine (HO.out _).mono ?_
  rintro e w' ⟨rfl, hb⟩
  go_wp2_with fail
  refine hK.out _ _ (keepT hb hH0) (fun hH1 => ?_)
  clear hK K hb hH0
  try simp only [Act.put, List.setIfInBounds_toArray, List.set_cons_zero, List.set_cons_succ]
  refine takeH (i := 11) (d := 55) (v := ?_) rfl rfl (by kernel_rfl) (by kernel_rfl) (by kernel_rfl) (fun _ _ _ h => h) (Or.inl ⟨by rfl, ?y11⟩) hH1 ?_
  case y11 => intro w hSw; go_simp; try with_reducible rfl
  try simp only [Act.put, List.setIfInBounds_toArray, List.set_cons_zero, List.set_cons_succ]
  refine takeH (i := 12) (d := 56) (v := ?_) rfl rfl (by kernel_rfl) (by kernel_rfl) (by kernel_rfl) (fun _ _ _ h => h) (Or.inl ⟨by rfl, ?y12⟩) hH1 ?_
  case y12 => intro w hSw; go_simp; try with_reducible rfl
  try simp only [Act.put, List.setIfInBounds_toArray, List.set_cons_zero, List.set_cons_succ]
  refine wpAnyH_done (by kernel_rfl) ?_ _
  have HU5 := Lib.hid hH1.2.2
  clear hH1 hEq
  go_wp2_with fail
  refine (HR.out _).mono ?_
  rintro e w5 ⟨rfl, hb⟩
  have HU6 := Lib.hid (HU5.out.trans (hb.mono HU5.out.size))
  have HZ := HAt.zero w5 32
  clear hb HU5 HR
  obtain ⟨Y, hY⟩ : ∃ Y, (decH (bl (t ++ s))).1 = Y := ⟨_, rfl⟩
  obtain ⟨r, hr⟩ : ∃ r, (decH (bl (t ++ s))).2 = r := ⟨_, rfl⟩
  rw [hY, hr]
  by_cases h0 : r = 0
  · obtain ⟨hmY, heY⟩ := HB.out Y (Prod.ext hY (hr.trans h0))
    subst h0
    have HE2 := Lib.hid (fun W => encode_any Y W hmY)
    rw [heY] at HE2
    simp only [str_bl] at HE2
    have HZ2 := HZ1.out
    have hzT : (((t ++ s).extract 0 127).size : Int) = 127 := by rw [ByteArray.size_extract]; omega
    obtain ⟨q, hq⟩ : ∃ q, (t ++ s).extract 0 127 = q := ⟨_, rfl⟩
    rw [hq] at HE2 hzT
    have hz7 : ((q.size : Int) == 127) = true := by rw [hzT]; rfl
    have hqe := eq_self_str q
    have hle : (127 : Int) ≤ ((t ++ s).size : Int) := by omega
    have hle2 : (127 : Int) ≤ (t.size : Int) + (s.size : Int) := by rw [ByteArray.size_append] at hle; omega
    clear hY hr hmY heY HZ2 hzT
    go_wp2_with (first | (refine store_head (by rfl) _ _ rfl _ rfl Y rfl _ zeroH (by assumption) rfl ?_; intro w6 HP) | (refine load_head (by rfl) _ rfl _ rfl _ Y (by exact HP.1) ?_) | fail)
    refine (HE2.out _).mono ?_
    rintro e w7 ⟨rfl, hb⟩
    have u7 := HP.2.2.1 _ _ HU6.out.size (HU6.out.alloc HU6.out.size _)
    have HU7 := Lib.hid (u7.trans (hb.mono u7.size))
    clear hb u7 HP HU6 HE2 HZ
    go_wp2_with fail
    refine (HA.out _).mono ?_
    rintro e w8 ⟨rfl, hb⟩
    have u8 := HU7.out.trans (hb.mono HU7.out.size)
    clear hb
    go_wp2_with fail
    go_ret
    exact ⟨rfl, u8⟩
  · have hne : (r != 0) = true := by simp only [bne_iff_ne, ne_eq]; exact h0
    clear h0 hY hr
    go_wp2_with (first | (refine store_head (by rfl) _ _ rfl _ rfl Y rfl _ zeroH (by assumption) rfl ?_; intro w6 HP) | fail)
    have u7 := HP.2.2.1 _ _ HU6.out.size (HU6.out.alloc HU6.out.size _)
    have HU7 := Lib.hid u7
    clear u7 HP HU6 HZ
    refine (HA.out _).mono ?_
    rintro e w8 ⟨rfl, hb⟩
    have u8 := HU7.out.trans (hb.mono HU7.out.size)
    clear hb
    go_wp2_with fail
    go_ret
    exact ⟨rfl, u8⟩
theorem back_all (X : Hd) (t : ByteArray) (w : World) (hm : MayH X) (_ : t.size ≤ maxLen) : Calls Try.prog 5 #[.agg (cH X), .string t] w fun e w' => e = .returned (.bool true) ∧ Below w.heap.size w w' := by
  by_cases h : 200 < t.size
  · exact back_long X t w h
  · by_cases hc : ckH X = 0
    · exact back_walk X t w hm h hc
    · exact back_bad X t w hm h hc
end Go.Proofs.Ytodjdeilaimjaaa
