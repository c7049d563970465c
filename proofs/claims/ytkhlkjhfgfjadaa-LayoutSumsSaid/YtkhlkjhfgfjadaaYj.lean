/- awake of the law: it is true in every world. -/
import Derived.Test.YtkhlkjhfgfjadaaYk
namespace Go.Proofs.Ytkhlkjhfgfjadaa
open Go.RowKit
set_option maxRecDepth 100000
set_option linter.unusedVariables false
set_option linter.unusedSimpArgs false
def hK1 : Hd := { zeroH with knd := 1 }
def pA : Pt := ⟨{ data := #[114, 111] }, { data := #[109] }, { data := #[] }, { data := #[100, 97, 116, 97] }⟩
def hB : Hd := { hK1 with rf := 127, rl := 2, mf := 129, ml := 1, lf := 130, ll := 0, df := 130, dl := 4 }
theorem awS1 : secsN 25 2 0 9 = ⟨⟨127, 25, 152, 2, 154, 0, 154, 9⟩, 163, 0⟩ := by unfold secsN; rw [if_neg (by decide)]; rfl
theorem awS2 : secsN 1099511627776 0 0 0 = ⟨zeroSc, 0, 8⟩ := by unfold secsN; rw [if_pos (by decide)]
theorem awM : MayH hK1 := by simp [MayH, U64, U8, hK1, zeroH]
theorem awF : Few pA 300 := by unfold Few; decide
theorem u64_of (a : Int) (h : 0 ≤ a ∧ a ≤ 18446744073709551615) : U64 a := h
theorem awG : (glueN hK1 pA).2 = 0 := by decide
theorem awH : hdOf hK1 pA = hB := by rfl
theorem awZ : (glueN hK1 pA).1.size = 134 := glue_size awM awF awG
theorem awC1 : cutN (glueN hK1 pA).1 = ⟨hB, pA, 0⟩ := by
  have h := cut_glue awM awF awG noB
  rw [awH] at h
  rwa [show (glueN hK1 pA).1 ++ noB = (glueN hK1 pA).1 from ByteArray.append_empty] at h
theorem cut_less8 {h : Hd} {p : Pt} (hm : MayH h) (hp : Few p 300) (e : (glueN h p).2 = 0) (hk : sumP p ≠ 0) : cutN ((glueN h p).1.extract 0 ((glueN h p).1.size - 1)) = ⟨zeroH, zeroPt, 8⟩ := by
  have hz := glue_size hm hp e
  obtain ⟨hc, hs⟩ := glue_ok e
  have he := end_glue hm hp e
  have hsz : ((glueN h p).1.extract 0 ((glueN h p).1.size - 1)).size = 126 + sumP p := by rw [ByteArray.size_extract]; omega
  have hbl : bl (glueN h p).1 = bytsH (hdOf h p) ++ (bl p.p0 ++ (bl p.p1 ++ (bl p.p2 ++ bl p.p3))) := by
    rw [hs]
    simp only [bl_append, bl_str _ (bytsH_byts _), List.append_assoc]
  have hl := bytsH_len _ (hd_may hm hp) hc
  have hd : decH (bl ((glueN h p).1.extract 0 ((glueN h p).1.size - 1))) = (hdOf h p, 0) := by
    rw [bl_extract, hbl, List.take_append, List.take_of_length_le (by omega)]
    exact dec_glue hm hc hp _
  have ho : outOf (hdOf h p) ((glueN h p).1.extract 0 ((glueN h p).1.size - 1)).size := by
    rw [hsz]
    unfold outOf
    omega
  exact cut_out hd ho
theorem awC2 : cutN ((glueN hK1 pA).1.extract 0 133) = ⟨zeroH, zeroPt, 8⟩ := by
  have h := cut_less8 awM awF awG (by decide)
  rwa [awZ] at h
theorem aw_glue : ∃ G : ByteArray, G.size = 134 ∧ cutN G = ⟨hB, pA, 0⟩ ∧ cutN (G.extract 0 133) = ⟨zeroH, zeroPt, 8⟩ ∧ ∀ w, Calls Try.prog 14 #[.agg #[.int .u64 0, .int .u64 0, .int .u64 0, .int .u64 0, .int .u64 0, .int .u64 0, .int .u64 0, .int .u64 0, .int .u64 0, .int .u64 0, .int .u64 0, .bool false, .int .u8 0, .int .u8 0, .int .u8 1, .int .i64 0, .int .i64 0, .int .i64 0, .int .i64 0, .int .i64 0, .int .i64 0, .int .i64 0, .int .i64 0, .int .i64 0], .agg #[.string { data := #[114, 111] }, .string { data := #[109] }, .string { data := #[] }, .string { data := #[100, 97, 116, 97] }]] w fun e w' => e = .returned (.tuple #[.string G, .int .i64 0]) ∧ Below w.heap.size w w' :=
  ⟨(glueN hK1 pA).1, awZ, awC1, awC2, fun w => (glue15_any hK1 pA w awM awF).mono fun e w' ⟨h1, h2⟩ => ⟨by rw [awG] at h1; exact h1, h2⟩⟩
theorem keep_aw {W w' w1 : World} {a0 a1 a2 a3 a4 a5 a6 a7 a8 a9 a10 a11 a12 a13 a14 : Addr} {v0 v1 v2 v3 v4 v5 v6 v7 v8 v9 v10 v11 v12 v13 v14 : Value} (hb : Below w'.heap.size w' w1) (h : w'.cell? a0 = some v0 ∧ w'.cell? a1 = some v1 ∧ w'.cell? a2 = some v2 ∧ w'.cell? a3 = some v3 ∧ w'.cell? a4 = some v4 ∧ w'.cell? a5 = some v5 ∧ w'.cell? a6 = some v6 ∧ w'.cell? a7 = some v7 ∧ w'.cell? a8 = some v8 ∧ w'.cell? a9 = some v9 ∧ w'.cell? a10 = some v10 ∧ w'.cell? a11 = some v11 ∧ w'.cell? a12 = some v12 ∧ w'.cell? a13 = some v13 ∧ w'.cell? a14 = some v14 ∧ Below W.heap.size W w') : w1.cell? a0 = some v0 ∧ w1.cell? a1 = some v1 ∧ w1.cell? a2 = some v2 ∧ w1.cell? a3 = some v3 ∧ w1.cell? a4 = some v4 ∧ w1.cell? a5 = some v5 ∧ w1.cell? a6 = some v6 ∧ w1.cell? a7 = some v7 ∧ w1.cell? a8 = some v8 ∧ w1.cell? a9 = some v9 ∧ w1.cell? a10 = some v10 ∧ w1.cell? a11 = some v11 ∧ w1.cell? a12 = some v12 ∧ w1.cell? a13 = some v13 ∧ w1.cell? a14 = some v14 ∧ Below W.heap.size W w1 := by
  obtain ⟨h0, h1, h2, h3, h4, h5, h6, h7, h8, h9, h10, h11, h12, h13, h14, hh⟩ := h
  exact ⟨cellb_later hb h0, cellb_later hb h1, cellb_later hb h2, cellb_later hb h3, cellb_later hb h4, cellb_later hb h5, cellb_later hb h6, cellb_later hb h7, cellb_later hb h8, cellb_later hb h9, cellb_later hb h10, cellb_later hb h11, cellb_later hb h12, cellb_later hb h13, cellb_later hb h14, hh.trans (hb.mono hh.size)⟩
set_option maxHeartbeats 8000000 in
theorem awake15_any (w : World) : Calls Try.prog 13 #[] w fun e w' => e = .returned (.bool true) ∧ Below w.heap.size w w' := by
  obtain ⟨G, hz, hc1, hc2, hg⟩ := aw_glue
  have HZ := Lib.hid hz
  have HC1 := Lib.hid hc1
  have HC2 := Lib.hid hc2
  have HG := Lib.hid hg
  clear hz hc1 hc2 hg
  go_enter Try.func13, Try.ntmps13
  go_wp2_with fail
  refine (sections15_any 25 2 0 9 _ (u64_of _ (by decide)) (u64_of _ (by decide)) (u64_of _ (by decide)) (u64_of _ (by decide))).mono ?_
  rintro e w1 ⟨rfl, hb1⟩
  rw [awS1]
  simp only [sArr]
  have HB1 := Lib.hid hb1
  clear hb1
  go_wp2_with fail
  have HB2 : Hid (Below w.heap.size w (w1.alloc (.cells #[.int .u64 127, .int .u64 25, .int .u64 152, .int .u64 2, .int .u64 154, .int .u64 0, .int .u64 154, .int .u64 9] 30))) := Lib.hid (HB1.out.alloc HB1.out.size _)
  have HL2 := Lib.hid (heap_new15 w1 (.cells #[.int .u64 127, .int .u64 25, .int .u64 152, .int .u64 2, .int .u64 154, .int .u64 0, .int .u64 154, .int .u64 9] 30))
  have HN2 : Hid (w1.heap.size < (w1.alloc (.cells #[.int .u64 127, .int .u64 25, .int .u64 152, .int .u64 2, .int .u64 154, .int .u64 0, .int .u64 154, .int .u64 9] 30)).heap.size) := Lib.hid (by simp)
  generalize w1.alloc (.cells #[.int .u64 127, .int .u64 25, .int .u64 152, .int .u64 2, .int .u64 154, .int .u64 0, .int .u64 154, .int .u64 9] 30) = W2 at *
  generalize w1.heap.size = n1 at *
  clear HB1
  refine (sections15_any 1099511627776 0 0 0 _ (u64_of _ (by decide)) (u64_of _ (by decide)) (u64_of _ (by decide)) (u64_of _ (by decide))).mono ?_
  rintro e w3 ⟨rfl, hb3⟩
  rw [awS2]
  simp only [sArr, zeroSc]
  have HB3 := Lib.hid (HB2.out.trans (hb3.mono HB2.out.size))
  have HL3 := Lib.hid ((hb3.block _ HN2.out).trans HL2.out)
  have HN3 := Lib.hid (Nat.lt_of_lt_of_le HN2.out hb3.size)
  clear hb3 HB2 HL2 HN2
  go_wp2_with fail
  have HB4 := Lib.hid (HB3.out.alloc HB3.out.size (.cells #[.int .u64 0, .int .u64 0, .int .u64 0, .int .u64 0, .int .u64 0, .int .u64 0, .int .u64 0, .int .u64 0] 30))
  have HL4 := Lib.hid ((heap_alloc_old (o := .cells #[.int .u64 0, .int .u64 0, .int .u64 0, .int .u64 0, .int .u64 0, .int .u64 0, .int .u64 0, .int .u64 0] 30) HN3.out).trans HL3.out)
  have HN4 : Hid (n1 < (w3.alloc (.cells #[.int .u64 0, .int .u64 0, .int .u64 0, .int .u64 0, .int .u64 0, .int .u64 0, .int .u64 0, .int .u64 0] 30)).heap.size) := Lib.hid (by have := HN3.out; simp; omega)
  generalize w3.alloc (.cells #[.int .u64 0, .int .u64 0, .int .u64 0, .int .u64 0, .int .u64 0, .int .u64 0, .int .u64 0, .int .u64 0] 30) = W4 at *
  clear HB3 HL3 HN3
  refine (HG.out _).mono ?_
  rintro e w5 ⟨rfl, hb5⟩
  have HB5 := Lib.hid (HB4.out.trans (hb5.mono HB4.out.size))
  have HL5 := Lib.hid ((hb5.block _ HN4.out).trans HL4.out)
  have HN5 := Lib.hid (Nat.lt_of_lt_of_le HN4.out hb5.size)
  clear hb5 HB4 HL4 HN4
  go_wp2_with fail
  refine (cut15_any G _ (by have := HZ.out; omega)).mono ?_
  rintro e w6 ⟨rfl, hb6⟩
  rw [HC1.out]
  dsimp only
  have HB6 := Lib.hid (HB5.out.trans (hb6.mono HB5.out.size))
  have HL6 := Lib.hid ((hb6.block _ HN5.out).trans HL5.out)
  have HN6 := Lib.hid (Nat.lt_of_lt_of_le HN5.out hb6.size)
  clear hb6 HB5 HL5 HN5
  have TW := two_of w6 hB pA
  obtain ⟨Hc, hHc⟩ : ∃ Hc, cH hB = Hc := ⟨_, rfl⟩
  obtain ⟨P, hP⟩ : ∃ P, pArr pA = P := ⟨_, rfl⟩
  have HSX : Hid ((Try.prog.info? 38).map (·.size) = some Hc.size ∧ 24 = Hc.size ∧ Hc.all (·.oneCell') = true) := Lib.hid (by rw [← hHc]; exact ⟨head_size, rfl, cH_one hB⟩)
  have HSP : Hid ((Try.prog.info? 44).map (·.size) = some P.size ∧ 4 = P.size ∧ P.all (·.oneCell') = true) := Lib.hid (by rw [← hP]; exact ⟨str4_size, rfl, by simp [pArr, Value.oneCell']⟩)
  rw [hHc, hP] at TW ⊢
  have HHc := Lib.hid hHc
  have HPc := Lib.hid hP
  clear hHc hP
  unfold Z24 P4 at TW
  have HTW := Lib.hid TW
  clear TW
  have hz1 : 1 ≤ (G.size : Int) := by have := HZ.out; omega
  have hz2 : (G.size : Int) ≤ 134 := by have := HZ.out; omega
  go_wp2_with (first | (refine wpList_store_row rfl 38 _ _ rfl w6.heap.size Hc rfl rfl 38 _ HTW.out.s1 HSX.out.1 HSX.out.2.1 HSX.out.2.2 ?_) | (refine wpList_store_row rfl 44 _ _ rfl (w6.heap.size + 1) P rfl rfl 44 _ HTW.out.s2 HSP.out.1 HSP.out.2.1 HSP.out.2.2 ?_) | fail)
  have HH7 := Lib.hid HTW.out.e1
  have HP7 := Lib.hid HTW.out.e2
  have HBW := Lib.hid HTW.out.e3
  have HSW := Lib.hid HTW.out.e4
  clear HTW
  generalize (((w6.alloc (.cells #[.int .u64 0, .int .u64 0, .int .u64 0, .int .u64 0, .int .u64 0, .int .u64 0, .int .u64 0, .int .u64 0, .int .u64 0, .int .u64 0, .int .u64 0, .bool false, .int .u8 0, .int .u8 0, .int .u8 0, .int .i64 0, .int .i64 0, .int .i64 0, .int .i64 0, .int .i64 0, .int .i64 0, .int .i64 0, .int .i64 0, .int .i64 0] 38)).alloc (.cells #[.string { data := #[] }, .string { data := #[] }, .string { data := #[] }, .string { data := #[] }] 44)).setRow w6.heap.size Hc).setRow (w6.heap.size + 1) P = W7 at *
  have HB7 := Lib.hid (HB6.out.trans (HBW.out.mono HB6.out.size))
  have HL7 := Lib.hid ((HBW.out.block _ HN6.out).trans HL6.out)
  have HN7 : Hid (n1 < w6.heap.size ∧ w6.heap.size + 2 ≤ W7.heap.size) := Lib.hid ⟨HN6.out, HSW.out⟩
  clear HB6 HL6 HN6 HBW HSW
  generalize w6.heap.size = n6 at *
  have HEX : Hid (G.extract 0 (G.size - 1) = G.extract 0 133) := Lib.hid (by rw [HZ.out])
  have hmn : ((G.size : Int) - min 1 (G.size : Int)).toNat = G.size - 1 := by have := HZ.out; omega
  try rw [hmn]
  clear hmn
  refine (cut15_any (G.extract 0 (G.size - 1)) _ (by rw [ByteArray.size_extract]; have := HZ.out; omega)).mono ?_
  rintro e w8 ⟨rfl, hb8⟩
  rw [HEX.out, HC2.out]
  dsimp only
  have HB8 := Lib.hid (HB7.out.trans (hb8.mono HB7.out.size))
  have HL8 := Lib.hid ((hb8.block _ (by have := HN7.out; omega)).trans HL7.out)
  have HH8 := Lib.hid ((hb8.block _ (by have := HN7.out; omega)).trans HH7.out)
  have HP8 := Lib.hid ((hb8.block _ (by have := HN7.out; omega)).trans HP7.out)
  have HN8 : Hid (n1 < n6 ∧ n6 + 2 ≤ w8.heap.size) := Lib.hid ⟨HN7.out.1, Nat.le_trans HN7.out.2 hb8.size⟩
  clear hb8 HB7 HL7 HN7 HH7 HP7 HEX
  have TW := two_of w8 zeroH zeroPt
  obtain ⟨Hz, hHz⟩ : ∃ Hz, cH zeroH = Hz := ⟨_, rfl⟩
  obtain ⟨Pz, hPz⟩ : ∃ Pz, pArr zeroPt = Pz := ⟨_, rfl⟩
  have HSY : Hid ((Try.prog.info? 38).map (·.size) = some Hz.size ∧ 24 = Hz.size ∧ Hz.all (·.oneCell') = true) := Lib.hid (by rw [← hHz]; exact ⟨head_size, rfl, cH_one zeroH⟩)
  have HSQ : Hid ((Try.prog.info? 44).map (·.size) = some Pz.size ∧ 4 = Pz.size ∧ Pz.all (·.oneCell') = true) := Lib.hid (by rw [← hPz]; exact ⟨str4_size, rfl, by simp [pArr, Value.oneCell']⟩)
  rw [hHz, hPz] at TW ⊢
  clear hHz hPz
  unfold Z24 P4 at TW
  have HTW := Lib.hid TW
  clear TW
  have HLN : Hid (n1 < w8.heap.size) := Lib.hid (by have := HN8.out; omega)
  have HHN : Hid (n6 < w8.heap.size) := Lib.hid (by have := HN8.out; omega)
  have HPN : Hid (n6 + 1 < w8.heap.size) := Lib.hid (by have := HN8.out; omega)
  go_upto_region 6 with (first | (refine wpList_store_row rfl 38 _ _ rfl w8.heap.size Hz rfl rfl 38 _ HTW.out.s1 HSY.out.1 HSY.out.2.1 HSY.out.2.2 ?_) | (refine wpList_store_row rfl 44 _ _ rfl (w8.heap.size + 1) Pz rfl rfl 44 _ HTW.out.s2 HSQ.out.1 HSQ.out.2.1 HSQ.out.2.2 ?_) | fail)
  have HBW := Lib.hid HTW.out.e3
  clear HTW
  generalize (((w8.alloc (.cells #[.int .u64 0, .int .u64 0, .int .u64 0, .int .u64 0, .int .u64 0, .int .u64 0, .int .u64 0, .int .u64 0, .int .u64 0, .int .u64 0, .int .u64 0, .bool false, .int .u8 0, .int .u8 0, .int .u8 0, .int .i64 0, .int .i64 0, .int .i64 0, .int .i64 0, .int .i64 0, .int .i64 0, .int .i64 0, .int .i64 0, .int .i64 0] 38)).alloc (.cells #[.string { data := #[] }, .string { data := #[] }, .string { data := #[] }, .string { data := #[] }] 44)).setRow w8.heap.size Hz).setRow (w8.heap.size + 1) Pz = W9 at *
  have HB9 := Lib.hid (HB8.out.trans (HBW.out.mono HB8.out.size))
  have l9 := (HBW.out.block _ HLN.out).trans HL8.out
  have h9 := (HBW.out.block _ HHN.out).trans HH8.out
  have p9 := (HBW.out.block _ HPN.out).trans HP8.out
  rw [← HHc.out] at h9
  rw [← HPc.out] at p9
  have l0 := cell_blk l9 0
  have l1 := cell_blk l9 1
  have l2 := cell_blk l9 2
  have l3 := cell_blk l9 3
  have l4 := cell_blk l9 4
  have l5 := cell_blk l9 5
  have l6 := cell_blk l9 6
  have l7 := cell_blk l9 7
  have h6 := cell_blk h9 6
  have h7 := cell_blk h9 7
  have h14 := cell_blk h9 14
  have p0 := cell_blk p9 0
  have p1 := cell_blk p9 1
  have p2 := cell_blk p9 2
  have p3 := cell_blk p9 3
  clear l9 h9 p9
  simp [cH, hB, hK1, pArr, pA] at l0 l1 l2 l3 l4 l5 l6 l7 h6 h7 h14 p0 p1 p2 p3
  have hzi : (G.size : Int) = 134 := by have := HZ.out; omega
  have hss := same_str4 { data := #[114, 111] } { data := #[109] } { data := #[] } { data := #[100, 97, 116, 97] }
  have hes := fun a b c d w => eq_sec a b c d w 9998
  clear hz1 hz2
  have HS0 : Hid ((fun w' => w'.cell? ⟨n1, 0, none⟩ = some (.int .u64 127) ∧ w'.cell? ⟨n1, 1, none⟩ = some (.int .u64 25) ∧ w'.cell? ⟨n1, 2, none⟩ = some (.int .u64 152) ∧ w'.cell? ⟨n1, 3, none⟩ = some (.int .u64 2) ∧ w'.cell? ⟨n1, 4, none⟩ = some (.int .u64 154) ∧ w'.cell? ⟨n1, 5, none⟩ = some (.int .u64 0) ∧ w'.cell? ⟨n1, 6, none⟩ = some (.int .u64 154) ∧ w'.cell? ⟨n1, 7, none⟩ = some (.int .u64 9) ∧ w'.cell? ⟨n6, 6, none⟩ = some (.int .u64 130) ∧ w'.cell? ⟨n6, 7, none⟩ = some (.int .u64 4) ∧ w'.cell? ⟨n6, 14, none⟩ = some (.int .u8 1) ∧ w'.cell? ⟨n6 + 1, 0, none⟩ = some (.string { data := #[114, 111] }) ∧ w'.cell? ⟨n6 + 1, 1, none⟩ = some (.string { data := #[109] }) ∧ w'.cell? ⟨n6 + 1, 2, none⟩ = some (.string { data := #[] }) ∧ w'.cell? ⟨n6 + 1, 3, none⟩ = some (.string { data := #[100, 97, 116, 97] }) ∧ Below W9.heap.size W9 w') W9.drew) := Lib.hid ⟨l0, l1, l2, l3, l4, l5, l6, l7, h6, h7, h14, p0, p1, p2, p3, (Below.refl _ _).drew⟩
  clear l0 l1 l2 l3 l4 l5 l6 l7 h6 h7 h14 p0 p1 p2 p3
  have hfl := fld_root (withN { zeroH with knd := 2 } ⟨127, 25, 152, 2, 154, 0, 154, 9⟩)
  dsimp only [List.append_eq, List.cons_append, List.nil_append]
  go_region_held3 (fun w' => w'.cell? ⟨n1, 0, none⟩ = some (.int .u64 127) ∧ w'.cell? ⟨n1, 1, none⟩ = some (.int .u64 25) ∧ w'.cell? ⟨n1, 2, none⟩ = some (.int .u64 152) ∧ w'.cell? ⟨n1, 3, none⟩ = some (.int .u64 2) ∧ w'.cell? ⟨n1, 4, none⟩ = some (.int .u64 154) ∧ w'.cell? ⟨n1, 5, none⟩ = some (.int .u64 0) ∧ w'.cell? ⟨n1, 6, none⟩ = some (.int .u64 154) ∧ w'.cell? ⟨n1, 7, none⟩ = some (.int .u64 9) ∧ w'.cell? ⟨n6, 6, none⟩ = some (.int .u64 130) ∧ w'.cell? ⟨n6, 7, none⟩ = some (.int .u64 4) ∧ w'.cell? ⟨n6, 14, none⟩ = some (.int .u8 1) ∧ w'.cell? ⟨n6 + 1, 0, none⟩ = some (.string { data := #[114, 111] }) ∧ w'.cell? ⟨n6 + 1, 1, none⟩ = some (.string { data := #[109] }) ∧ w'.cell? ⟨n6 + 1, 2, none⟩ = some (.string { data := #[] }) ∧ w'.cell? ⟨n6 + 1, 3, none⟩ = some (.string { data := #[100, 97, 116, 97] }) ∧ Below W9.heap.size W9 w') (first | exact HS0.out | exact keep_aw hk (by assumption))
    (first | (go_at_call 19; refine (end_sec _ _ _).mono ?_; rintro e w' ⟨rfl, hk⟩) | (go_at_call 10; refine (with15_any { zeroH with knd := 2 } ⟨127, 25, 152, 2, 154, 0, 154, 9⟩ _).mono ?_; rintro e w' ⟨rfl, hk⟩))
  rename_i hHeld
  have hbE : Below W9.heap.size W9 w' := by
    have h := hHeld
    exact h.2.2.2.2.2.2.2.2.2.2.2.2.2.2.2
  clear hHeld
  go_wp2_with fail
  go_ret
  exact ⟨rfl, HB9.out.trans (hbE.mono HB9.out.size)⟩
end Go.Proofs.Ytkhlkjhfgfjadaa
