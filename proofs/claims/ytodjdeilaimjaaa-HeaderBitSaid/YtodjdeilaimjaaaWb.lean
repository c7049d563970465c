/- The walk of HeaderBit. -/
import Derived.Test.YtodjdeilaimjaaaWt
import Derived.Laws.BitsAllLaws
import Derived.Lib.ConvBytes
import Derived.Laws.IdiomStrings
import Derived.Laws.AppendOwn
namespace Go.Proofs.Ytodjdeilaimjaaa
open Go.RowKit
set_option linter.unusedVariables false
set_option linter.unusedSimpArgs false
/-- A row of bytes, marked behind its end. -/
def RowB (w : World) (g : Nat) (l : List Int) : Prop := ∃ C : Array Value, w.heap[g]? = some (.cells C 5 (C.size, C.size + 1)) ∧ l.length ≤ C.size ∧ ∀ i, i < l.length → C[i]? = some (.int .u8 (l.getD i 0))
theorem RowB.lt {w : World} {g : Nat} {l : List Int} (h : RowB w g l) : g < w.heap.size := by
  obtain ⟨C, h, -⟩ := h
  rcases Nat.lt_or_ge g w.heap.size with h' | h'
  · exact h'
  · rw [Array.getElem?_eq_none h'] at h; cases h
theorem RowB.later {w w' : World} {g : Nat} {l : List Int} (h : RowB w g l) (hb : Below w.heap.size w w') : RowB w' g l := by
  have hl := h.lt
  obtain ⟨C, h, h2⟩ := h
  exact ⟨C, (hb.block g hl).trans h, h2⟩
theorem RowB.cell {w : World} {g : Nat} {l : List Int} (h : RowB w g l) (i : Nat) (hi : i < l.length) : w.cell? ⟨g, i, none⟩ = some (.int .u8 (l.getD i 0)) ∧ w.frozen? ⟨g, i, none⟩ = false := by
  obtain ⟨C, h, h1, h2⟩ := h
  refine ⟨(cell_blk h i).trans (h2 i hi), ?_⟩
  simp [World.frozen?, h]
  omega
theorem RowB.put {w : World} {g : Nat} {l : List Int} (h : RowB w g l) (k : Nat) (x : Int) (hk : k < l.length) : RowB (w.setCell ⟨g, k, none⟩ (.int .u8 x)) g (l.set k x) := by
  obtain ⟨C, h, h1, h2⟩ := h
  refine ⟨C.setIfInBounds k (.int .u8 x), ?_, by simpa using h1, fun i hi => ?_⟩
  · rw [setCell_blk h]; simp
  · rw [List.length_set] at hi
    by_cases e : k = i
    · subst e
      rw [Array.getElem?_setIfInBounds_self_of_lt (by omega)]
      simp [hi]
    · rw [Array.getElem?_setIfInBounds_ne e, h2 i hi]
      simp [e]
theorem RowB.bytes {w : World} {g cap : Nat} {l : List Int} (h : RowB w g l) (hc : l.length ≤ cap) (hm : cap ≤ maxLen) : BytesAt w (.slice (some ⟨g, 0, none⟩) l.length cap) l :=
  ⟨_, cap, rfl, hc, hm, fun _ => ⟨_, rfl, h.lt, fun i hi => by
    have e : (⟨g, 0, none⟩ : Addr).add i = ⟨g, i, none⟩ := by unfold Addr.add; split <;> simp_all
    rw [e]; exact (h.cell i hi).1⟩⟩
/-- What '[]byte(s)' makes. -/
theorem row_conv (W : World) (s : ByteArray) : RowB (Lib.bytesWorld W 5 s) W.heap.size (bl s) := by
  refine ⟨_, Lib.bytesWorld_at_new W 5 s, by rw [bl_len]; simp [Lib.bytesCells], fun i hi => ?_⟩
  rw [bl_len] at hi
  have h := Lib.bytesWorld_cell W 5 s i hi
  rw [cell_blk (Lib.bytesWorld_at_new W 5 s)] at h
  rw [h, bl]
  have hd : i < s.data.size := hi
  simp only [List.getD_eq_getElem?_getD, List.getElem?_map, Array.getElem?_toList, Array.getElem?_eq_getElem hd, Option.map_some, Option.getD_some]
theorem conv_below (W : World) (s : ByteArray) : Below W.heap.size W (Lib.bytesWorld W 5 s) := by
  refine ⟨rfl, rfl, rfl, by rw [Lib.bytesWorld_size]; omega, fun k hk => Lib.bytesWorld_at_old W 5 s k hk⟩
theorem bit_get (l : List Int) (k : Nat) (h : Byts l) (hk : k < l.length) : 0 ≤ l.getD k 0 ∧ l.getD k 0 < 256 := h _ (getD_mem l k hk)
theorem xor_ne (c b : Nat) (hb : b ≠ 0) : c ^^^ b ≠ c := by
  intro h
  apply hb
  have h2 : c ^^^ (c ^^^ b) = c ^^^ c := by rw [h]
  rwa [← Nat.xor_assoc, Nat.xor_self, Nat.zero_xor] at h2
theorem bit_plain (X : Hd) (k : Nat) (b : Int) (hm : MayH X) (hc : ckH X = 0) (hk : k < 127) (b0 : 0 ≤ b) (b1 : b ≤ 255) (hb : b ≠ 0) :
    Byts ((bytsH X).set k ((((bytsH X).getD k 0).toNat ^^^ b.toNat : Nat) : Int)) ∧ ((bytsH X).set k ((((bytsH X).getD k 0).toNat ^^^ b.toNat : Nat) : Int)).length = 127 ∧ decH ((bytsH X).set k ((((bytsH X).getD k 0).toNat ^^^ b.toNat : Nat) : Int)) ≠ (X, 0) ∧
      (k < 8 → ∀ Y, decH ((bytsH X).set k ((((bytsH X).getD k 0).toNat ^^^ b.toNat : Nat) : Int)) ≠ (Y, 0)) := by
  have hl := bytsH_len X hm hc
  have hby := bytsH_byts X
  have hcb := bit_get (bytsH X) k hby (by omega)
  have hgk : (bytsH X)[k]? = some ((bytsH X).getD k 0) := by rw [List.getD_eq_getElem?_getD, List.getElem?_eq_getElem (by omega)]; rfl
  obtain ⟨c, hcc⟩ : ∃ c, (bytsH X).getD k 0 = c := ⟨_, rfl⟩
  rw [hcc] at hcb hgk ⊢
  have hx : c.toNat ^^^ b.toNat < 2 ^ 8 := Nat.xor_lt_two_pow (by omega) (by omega)
  have hne : ((c.toNat ^^^ b.toNat : Nat) : Int) ≠ c := fun h => xor_ne c.toNat b.toNat (by omega) (by omega)
  obtain ⟨x, hxx⟩ : ∃ x, ((c.toNat ^^^ b.toNat : Nat) : Int) = x := ⟨_, rfl⟩
  have hxb : 0 ≤ x ∧ x < 256 := by omega
  rw [hxx] at hne ⊢
  have h1 : Byts ((bytsH X).set k x) := fun d hd => by
    rcases List.mem_or_eq_of_mem_set hd with h | h
    · exact hby d h
    · subst h; exact hxb
  have hset : ((bytsH X).set k x)[k]? = some x := by rw [List.getElem?_set_self (by omega)]
  refine ⟨h1, by rw [List.length_set, hl], dec_bit X _ hm hc h1 (by rw [List.length_set, hl]) (fun h => hne ?_), fun h8 Y => dec_magic _ Y h1 (fun h => hne ?_)⟩
  · rw [h, hgk] at hset; exact (Option.some.inj hset).symm
  · have ht : (bytsH X).take 8 = headH := by rw [bytsH, List.take_left' (by rfl)]
    rw [← ht] at h
    have e1 : (((bytsH X).set k x).take 8)[k]? = some x := by rw [List.getElem?_take_of_lt h8, hset]
    rw [h, List.getElem?_take_of_lt h8, hgk] at e1
    exact (Option.some.inj e1).symm
theorem eqF (Y X : Hd) (h : Y ≠ X) (W : World) : Sem.run Try.prog (Op.equalIn 10000 32 (.agg (cH Y)) (.agg (cH X))) W = .ok false W := by
  have e := eq_head Y X W
  rw [decide_eq_false h] at e
  exact e
set_option maxRecDepth 20000 in
set_option maxHeartbeats 4000000 in
theorem bit_walk (X : Hd) (a b : Int) (w : World) (hm : MayH X) (a0 : 0 ≤ a) (a1 : a ≤ 255) (b0 : 0 ≤ b) (b1 : b ≤ 255) (hc : ckH X = 0) (hb0 : b ≠ 0) : Calls Try.prog 6 #[.agg (cH X), .int .u8 a, .int .u8 b] w fun e w' => e = .returned (.bool true) ∧ Below w.heap.size w w' := by
  have HE := Lib.hid (fun W => encode_any X W hm)
  have hz : (str (encH X).1).size = 127 := by rw [str_size, encH, if_pos hc, bytsH_len X hm hc]
  have hbl : bl (str (encH X).1) = bytsH X := by rw [encH, if_pos hc]; exact bl_str _ (bytsH_byts X)
  obtain ⟨s, hs⟩ : ∃ s, str (encH X).1 = s := ⟨_, rfl⟩
  have hr : (encH X).2 = 0 := by rw [encH, if_pos hc]
  rw [hs, hr] at HE
  rw [hs] at hz hbl
  have HO := Lib.hid (fun W => own_any X W)
  have HA := Lib.hid awake_any
  have H0 := HAt.made w X 26
  have hbz : (b == 0) = false := by simpa using hb0
  have hz2 : (s.size : Int) = 127 := by omega
  have HM := Lib.hid hm
  have HBL := Lib.hid hbl
  have HCk := Lib.hid hc
  have HB0 := Lib.hid hb0
  have hcv := fun W => Lib.run_convert_string_bytes (P := Try.prog) W 9 49 5 s Try.underlying9 Try.underlying49 Try.underlying5
  clear hs hr hm hc hb0 hbl
  go_enter Try.func6, Try.ntmps6
  go_wp2_with (first | (refine rload_head (by rfl) _ rfl _ rfl _ X (by assumption) ?_) | fail)
  refine (HO.out _).mono ?_
  rintro e w1 ⟨rfl, hb⟩
  have H1 := H0.below hb (by rw [World.size_alloc]; omega)
  have u1 : Below w.heap.size w w1 := Below.trans (by go_grown) (hb.mono (by rw [World.size_alloc]; omega))
  have HU := Lib.hid u1
  have HH1 := Lib.hid H1
  clear hb H0 u1 H1
  go_wp2_with fail
  refine (HE.out _).mono ?_
  rintro e w2 ⟨rfl, hb⟩
  have H2 := Lib.hid (HH1.out.later hb)
  have HU2 := Lib.hid (HU.out.trans (hb.mono HU.out.size))
  clear hb HH1 HU HE
  go_upto_region 6 with fail
  go_cut [9] (fun v wx => ∃ g cap, v = .slice (some ⟨g, 0, none⟩) 127 cap ∧ 127 ≤ cap ∧ cap ≤ maxLen ∧ RowB wx g (bytsH X) ∧ HAt wx w.heap.size 26 X ∧ Below w.heap.size w wx ∧ w.heap.size < g)
  case first =>
    go_wp2_with fail
    go_meet
    case rel =>
      have hrow := row_conv w2 s
      rw [HBL.out] at hrow
      have hbw := conv_below w2 s
      exact ⟨_, _, rfl, grownCap_ge _ _ _ _, grownCap_le_maxLen _ _ _ _ (by simp [maxLen]), hrow, H2.out.later hbw, HU2.out.trans (hbw.mono HU2.out.size), H2.out.lt⟩
  case rest =>
  clear hcv H2 HU2
  obtain ⟨g, cap, rfl, hc1, hc2, hRow, hH, hU, hg⟩ := hcut
  generalize wc = w3 at *
  have hk : (a % 127).toNat < 127 := by omega
  obtain ⟨l, hl⟩ : ∃ l, bytsH X = l := ⟨_, rfl⟩
  have hlen : l.length = 127 := by rw [← hl]; exact bytsH_len X HM.out HCk.out
  have hby : Byts l := by rw [← hl]; exact bytsH_byts X
  rw [hl] at hRow
  obtain ⟨c, hc⟩ : ∃ c, l.getD (a % 127).toNat 0 = c := ⟨_, rfl⟩
  have hcb := bit_get l (a % 127).toNat hby (by omega)
  obtain ⟨hcell, hfz⟩ := hRow.cell (a % 127).toNat (by omega)
  rw [hc] at hcell hcb
  have hxor := u8_xor c b (by omega) (by omega) (by omega) (by omega)
  have HPut := Lib.hid (fun x => hRow.put (a % 127).toNat x (by omega))
  have HH3 := Lib.hid (And.intro hH hU)
  have HX := Lib.hid (bit_plain X (a % 127).toNat b HM.out HCk.out hk b0 b1 HB0.out)
  rw [hl, hc] at HX
  obtain ⟨x, hx⟩ : ∃ x, ((c.toNat ^^^ b.toNat : Nat) : Int) = x := ⟨_, rfl⟩
  rw [hx] at hxor HX
  have HL := Lib.hid (And.intro hl hlen)
  have hkk : (a % 127).toNat < 127 := hk
  have g0 : (0 : Int) ≤ a % 127 := by omega
  have g1 : a % 127 < 127 := by omega
  have HK := Lib.hid (And.intro hk hg)
  have HC2 := Lib.hid (And.intro hc1 hc2)
  clear hl hx hRow hH hU hc hcb hlen hby
  go_upto_region 7 with fail
  go_cut [] (fun wx => BytesAt wx (.slice (some ⟨g, 0, none⟩) 127 cap) (l.set (a % 127).toNat x) ∧ HAt wx w.heap.size 26 X ∧ Below w.heap.size w wx)
  case first =>
    go_wp2_with fail
    go_meet
    case rel =>
      have hB := (HPut.out x).bytes (cap := cap) (by rw [List.length_set, HL.out.2]; exact HC2.out.1) HC2.out.2
      rw [List.length_set, HL.out.2] at hB
      exact ⟨hB, (heap_other (by have := HK.out.2; omega)).trans HH3.out.1, HH3.out.2.setCell (by show w.heap.size ≤ g; have := HK.out.2; omega) _⟩
  case rest =>
  obtain ⟨hB, hH, hU⟩ := hcut
  generalize wc = w4 at *
  clear HPut hcell hfz hxor HH3
  obtain ⟨m, hm⟩ : ∃ m, l.set (a % 127).toNat x = m := ⟨_, rfl⟩
  rw [hm] at hB HX
  have hcv := run_str w4 _ _ hB
  have HD := Lib.hid (fun W => decode_any (str m) W (by rw [str_size, HX.out.2.1]; simp [maxLen]))
  rw [bl_str m HX.out.1] at HD
  obtain ⟨Y, hY⟩ : ∃ Y, (decH m).1 = Y := ⟨_, rfl⟩
  obtain ⟨f, hf⟩ : ∃ f, (decH m).2 = f := ⟨_, rfl⟩
  rw [hY, hf] at HD
  have HF : Hid ((f = 0 → Y ≠ X) ∧ ((a % 127).toNat < 8 → f ≠ 0)) := Lib.hid ⟨fun h0 hYX => HX.out.2.2.1 (Prod.ext (hY.trans hYX) (hf.trans h0)), fun h8 h0 => HX.out.2.2.2 h8 Y (Prod.ext hY (hf.trans h0))⟩
  have HH4 := Lib.hid (And.intro hH hU)
  obtain ⟨q, hq⟩ : ∃ q, str m = q := ⟨_, rfl⟩
  rw [hq] at hcv HD
  clear hq hm hY hf hB hH hU HX HL HC2
  go_wp2_with fail
  refine (HD.out _).mono ?_
  rintro e w5 ⟨rfl, hb⟩
  have H5 := HH4.out.1.later hb
  have HU5 := Lib.hid (HH4.out.2.trans (hb.mono HH4.out.2.size))
  have HH5 := Lib.hid H5
  have hl5 := H5.lt
  have HZ := HAt.zero w5 32
  clear hb H5 HH4 HD hcv
  go_upto_region 9 with (first | (refine store_head (by rfl) _ _ rfl _ rfl Y rfl _ zeroH (by assumption) rfl ?_; intro w6 HP) | fail)
  have HS0 := keepT (Below.drew (Below.refl _ _)) ⟨HP.1, HP.keep ((heap_alloc_old hl5).trans HH5.out) (by omega), HP.2.2.1 _ _ HU5.out.size (HU5.out.alloc HU5.out.size _)⟩
  obtain ⟨g1, hg1⟩ : ∃ g, w5.heap.size = g := ⟨_, rfl⟩
  rw [hg1] at HS0 ⊢
  clear hg1 HP HU5 HH5 hl5 HZ hg
  by_cases h0 : f = 0
  · subst h0
    have hYX := HF.out.1 rfl
    have hge : decide (8 ≤ a.tmod 127) = true := by
      have h8 := HF.out.2
      rw [Int.tmod_eq_emod_of_nonneg a0]
      simp only [decide_eq_true_eq]
      rcases Int.lt_or_le (a % 127) 8 with h | h
      · exact absurd rfl (h8 (by omega))
      · exact h
    have hEq := fun W => eqF Y X hYX W
    clear hYX
    refine wp_region_held_drew (S := fun w' => HAt w' g1 32 Y ∧ HAt w' w.heap.size 26 X ∧ Below w.heap.size w w') (by kernel_rfl) HS0 (fun hH0 => ?_)
    refine takeH (i := 0) (d := 44) (v := ?_) rfl rfl (by kernel_rfl) (by kernel_rfl) (by kernel_rfl) (fun _ _ _ h => h) (Or.inl ⟨by rfl, ?y0⟩) hH0 ?_
    case y0 => intro w hSw; go_simp; try with_reducible rfl
    try simp only [Act.put, List.setIfInBounds_toArray, List.set_cons_zero, List.set_cons_succ]
    refine takeH (i := 1) (d := 45) (v := ?_) rfl rfl (by kernel_rfl) (by kernel_rfl) (by kernel_rfl) (fun _ _ _ h => h) (Or.inl ⟨by rfl, ?y1⟩) hH0 ?_
    case y1 => intro w hSw; go_simp; try with_reducible rfl
    try simp only [Act.put, List.setIfInBounds_toArray, List.set_cons_zero, List.set_cons_succ]
    refine takeH (i := 2) (d := 46) (v := ?_) rfl rfl (by kernel_rfl) (by kernel_rfl) (by kernel_rfl) (fun _ _ _ h => h) (Or.inl ⟨by rfl, ?y2⟩) hH0 ?_
    case y2 => intro w hSw; go_simp; try with_reducible rfl
    try simp only [Act.put, List.setIfInBounds_toArray, List.set_cons_zero, List.set_cons_succ]
    refine takeH (i := 3) (d := 47) rfl rfl (by kernel_rfl) (by kernel_rfl) (by kernel_rfl) (fun _ _ _ h => h) (yieldsIf_head (by rfl) _ rfl _ rfl _ _ (fun _ H => H.1)) hH0 ?_
    try simp only [Act.put, List.setIfInBounds_toArray, List.set_cons_zero, List.set_cons_succ]
    refine takeH (i := 4) (d := 48) rfl rfl (by kernel_rfl) (by kernel_rfl) (by kernel_rfl) (fun _ _ _ h => h) (yieldsIf_rhead (by rfl) _ rfl _ rfl _ _ (fun _ H => H.2.1)) hH0 ?_
    try simp only [Act.put, List.setIfInBounds_toArray, List.set_cons_zero, List.set_cons_succ]
    refine wpAnyH_ready (rs := [5]) (by kernel_rfl) (by simp) ?_
    refine AllReadyH.cons rfl (fun K hK => ?_) AllReadyH.nil
    go_simp
    refine (HO.out _).mono ?_
    rintro e w' ⟨rfl, hb⟩
    go_wp2_with fail
    refine hK.out _ _ (keepT hb hH0) (fun hH1 => ?_)
    clear hK K hb hH0
    try simp only [Act.put, List.setIfInBounds_toArray, List.set_cons_zero, List.set_cons_succ]
    refine takeH (i := 6) (d := 50) (v := ?_) rfl rfl (by kernel_rfl) (by kernel_rfl) (by kernel_rfl) (fun _ _ _ h => h) (Or.inl ⟨by rfl, ?y6⟩) hH1 ?_
    case y6 => intro w hSw; go_simp; try with_reducible rfl
    try simp only [Act.put, List.setIfInBounds_toArray, List.set_cons_zero, List.set_cons_succ]
    refine takeH (i := 7) (d := 51) (v := ?_) rfl rfl (by kernel_rfl) (by kernel_rfl) (by kernel_rfl) (fun _ _ _ h => h) (Or.inl ⟨by rfl, ?y7⟩) hH1 ?_
    case y7 => intro w hSw; go_simp; try with_reducible rfl
    try simp only [Act.put, List.setIfInBounds_toArray, List.set_cons_zero, List.set_cons_succ]
    refine takeH (i := 8) (d := 52) (v := ?_) rfl rfl (by kernel_rfl) (by kernel_rfl) (by kernel_rfl) (fun _ _ _ h => h) (Or.inl ⟨by rfl, ?y8⟩) hH1 ?_
    case y8 => intro w hSw; go_simp; try with_reducible rfl
    try simp only [Act.put, List.setIfInBounds_toArray, List.set_cons_zero, List.set_cons_succ]
    refine takeH (i := 9) (d := 53) (v := ?_) rfl rfl (by kernel_rfl) (by kernel_rfl) (by kernel_rfl) (fun _ _ _ h => h) (Or.inl ⟨by rfl, ?y9⟩) hH1 ?_
    case y9 => intro w hSw; go_simp; try with_reducible rfl
    try simp only [Act.put, List.setIfInBounds_toArray, List.set_cons_zero, List.set_cons_succ]
    refine takeH (i := 10) (d := 54) (v := ?_) rfl rfl (by kernel_rfl) (by kernel_rfl) (by kernel_rfl) (fun _ _ _ h => h) (Or.inl ⟨by rfl, ?y10⟩) hH1 ?_
    case y10 => intro w hSw; go_simp; try with_reducible rfl
    try simp only [Act.put, List.setIfInBounds_toArray, List.set_cons_zero, List.set_cons_succ]
    refine takeH (i := 11) (d := 55) (v := ?_) rfl rfl (by kernel_rfl) (by kernel_rfl) (by kernel_rfl) (fun _ _ _ h => h) (Or.inl ⟨by rfl, ?y11⟩) hH1 ?_
    case y11 => intro w hSw; go_simp; try with_reducible rfl
    try simp only [Act.put, List.setIfInBounds_toArray, List.set_cons_zero, List.set_cons_succ]
    refine takeH (i := 12) (d := 56) (v := ?_) rfl rfl (by kernel_rfl) (by kernel_rfl) (by kernel_rfl) (fun _ _ _ h => h) (Or.inl ⟨by rfl, ?y12⟩) hH1 ?_
    case y12 => intro w hSw; go_simp; try with_reducible rfl
    try simp only [Act.put, List.setIfInBounds_toArray, List.set_cons_zero, List.set_cons_succ]
    refine takeH (i := 13) (d := 57) (v := undef) rfl rfl (by kernel_rfl) (by kernel_rfl) (by kernel_rfl) (fun _ _ _ h => h) (Or.inr ⟨by rfl, rfl⟩) hH1 ?_
    try simp only [Act.put, List.setIfInBounds_toArray, List.set_cons_zero, List.set_cons_succ]
    refine takeH (i := 14) (d := 58) (v := undef) rfl rfl (by kernel_rfl) (by kernel_rfl) (by kernel_rfl) (fun _ _ _ h => h) (Or.inr ⟨by rfl, rfl⟩) hH1 ?_
    try simp only [Act.put, List.setIfInBounds_toArray, List.set_cons_zero, List.set_cons_succ]
    refine takeH (i := 15) (d := 59) (v := ?_) rfl rfl (by kernel_rfl) (by kernel_rfl) (by kernel_rfl) (fun _ _ _ h => h) (Or.inl ⟨by rfl, ?y15⟩) hH1 ?_
    case y15 => intro w hSw; go_simp; try with_reducible rfl
    try simp only [Act.put, List.setIfInBounds_toArray, List.set_cons_zero, List.set_cons_succ]
    refine takeH (i := 16) (d := 60) (v := ?_) rfl rfl (by kernel_rfl) (by kernel_rfl) (by kernel_rfl) (fun _ _ _ h => h) (Or.inl ⟨by rfl, ?y16⟩) hH1 ?_
    case y16 => intro w hSw; go_simp; try with_reducible rfl
    try simp only [Act.put, List.setIfInBounds_toArray, List.set_cons_zero, List.set_cons_succ]
    refine takeH (i := 17) (d := 61) (v := ?_) rfl rfl (by kernel_rfl) (by kernel_rfl) (by kernel_rfl) (fun _ _ _ h => h) (Or.inl ⟨by rfl, ?y17⟩) hH1 ?_
    case y17 => intro w hSw; go_simp; try with_reducible rfl
    try simp only [Act.put, List.setIfInBounds_toArray, List.set_cons_zero, List.set_cons_succ]
    refine wpAnyH_ready (rs := [18]) (by kernel_rfl) (by simp) ?_
    refine AllReadyH.cons rfl (fun K hK => ?_) AllReadyH.nil
    go_simp
    refine (HA.out _).mono ?_
    rintro e w' ⟨rfl, hb⟩
    go_wp2_with fail
    refine hK.out _ _ (keepT hb hH1) (fun hH2 => ?_)
    clear hK K hb hH1
    try simp only [Act.put, List.setIfInBounds_toArray, List.set_cons_zero, List.set_cons_succ]
    refine takeH (i := 19) (d := 63) (v := ?_) rfl rfl (by kernel_rfl) (by kernel_rfl) (by kernel_rfl) (fun _ _ _ h => h) (Or.inl ⟨by rfl, ?y19⟩) hH2 ?_
    case y19 => intro w hSw; go_simp; try with_reducible rfl
    try simp only [Act.put, List.setIfInBounds_toArray, List.set_cons_zero, List.set_cons_succ]
    refine takeH (i := 20) (d := 6) (v := ?_) rfl rfl (by kernel_rfl) (by kernel_rfl) (by kernel_rfl) (fun _ _ _ h => h) (Or.inl ⟨by rfl, ?y20⟩) hH2 ?_
    case y20 => intro w hSw; go_simp; try with_reducible rfl
    try simp only [Act.put, List.setIfInBounds_toArray, List.set_cons_zero, List.set_cons_succ]
    refine wpAnyH_done (by kernel_rfl) ?_ _
    go_wp2_with fail
    go_ret
    exact ⟨rfl, hH2.2.2⟩
  · have hne : (f != 0) = true := by simp only [bne_iff_ne, ne_eq]; exact h0
    by_cases h8 : 8 ≤ a % 127
    · have hge : decide (8 ≤ a.tmod 127) = true := by rw [Int.tmod_eq_emod_of_nonneg a0]; simpa using h8
      clear h0 h8
      refine wp_region_held_drew (S := fun w' => HAt w' g1 32 Y ∧ HAt w' w.heap.size 26 X ∧ Below w.heap.size w w') (by kernel_rfl) HS0 (fun hH0 => ?_)
      refine takeH (i := 0) (d := 44) (v := ?_) rfl rfl (by kernel_rfl) (by kernel_rfl) (by kernel_rfl) (fun _ _ _ h => h) (Or.inl ⟨by rfl, ?y0⟩) hH0 ?_
      case y0 => intro w hSw; go_simp; try with_reducible rfl
      try simp only [Act.put, List.setIfInBounds_toArray, List.set_cons_zero, List.set_cons_succ]
      refine takeH (i := 1) (d := 45) (v := ?_) rfl rfl (by kernel_rfl) (by kernel_rfl) (by kernel_rfl) (fun _ _ _ h => h) (Or.inl ⟨by rfl, ?y1⟩) hH0 ?_
      case y1 => intro w hSw; go_simp; try with_reducible rfl
      try simp only [Act.put, List.setIfInBounds_toArray, List.set_cons_zero, List.set_cons_succ]
      refine takeH (i := 2) (d := 46) (v := ?_) rfl rfl (by kernel_rfl) (by kernel_rfl) (by kernel_rfl) (fun _ _ _ h => h) (Or.inl ⟨by rfl, ?y2⟩) hH0 ?_
      case y2 => intro w hSw; go_simp; try with_reducible rfl
      try simp only [Act.put, List.setIfInBounds_toArray, List.set_cons_zero, List.set_cons_succ]
      refine takeH (i := 3) (d := 47) (v := undef) rfl rfl (by kernel_rfl) (by kernel_rfl) (by kernel_rfl) (fun _ _ _ h => h) (Or.inr ⟨by rfl, rfl⟩) hH0 ?_
      try simp only [Act.put, List.setIfInBounds_toArray, List.set_cons_zero, List.set_cons_succ]
      refine takeH (i := 4) (d := 48) (v := undef) rfl rfl (by kernel_rfl) (by kernel_rfl) (by kernel_rfl) (fun _ _ _ h => h) (Or.inr ⟨by rfl, rfl⟩) hH0 ?_
      try simp only [Act.put, List.setIfInBounds_toArray, List.set_cons_zero, List.set_cons_succ]
      refine takeH (i := 5) (d := 49) (v := undef) rfl rfl (by kernel_rfl) (by kernel_rfl) (by kernel_rfl) (fun _ _ _ h => h) (Or.inr ⟨by rfl, rfl⟩) hH0 ?_
      try simp only [Act.put, List.setIfInBounds_toArray, List.set_cons_zero, List.set_cons_succ]
      refine takeH (i := 6) (d := 50) (v := undef) rfl rfl (by kernel_rfl) (by kernel_rfl) (by kernel_rfl) (fun _ _ _ h => h) (Or.inr ⟨by rfl, rfl⟩) hH0 ?_
      try simp only [Act.put, List.setIfInBounds_toArray, List.set_cons_zero, List.set_cons_succ]
      refine takeH (i := 7) (d := 51) (v := ?_) rfl rfl (by kernel_rfl) (by kernel_rfl) (by kernel_rfl) (fun _ _ _ h => h) (Or.inl ⟨by rfl, ?y7⟩) hH0 ?_
      case y7 => intro w hSw; go_simp; try with_reducible rfl
      try simp only [Act.put, List.setIfInBounds_toArray, List.set_cons_zero, List.set_cons_succ]
      refine takeH (i := 8) (d := 52) (v := ?_) rfl rfl (by kernel_rfl) (by kernel_rfl) (by kernel_rfl) (fun _ _ _ h => h) (Or.inl ⟨by rfl, ?y8⟩) hH0 ?_
      case y8 => intro w hSw; go_simp; try with_reducible rfl
      try simp only [Act.put, List.setIfInBounds_toArray, List.set_cons_zero, List.set_cons_succ]
      refine takeH (i := 9) (d := 53) (v := ?_) rfl rfl (by kernel_rfl) (by kernel_rfl) (by kernel_rfl) (fun _ _ _ h => h) (Or.inl ⟨by rfl, ?y9⟩) hH0 ?_
      case y9 => intro w hSw; go_simp; try with_reducible rfl
      try simp only [Act.put, List.setIfInBounds_toArray, List.set_cons_zero, List.set_cons_succ]
      refine takeH (i := 10) (d := 54) (v := ?_) rfl rfl (by kernel_rfl) (by kernel_rfl) (by kernel_rfl) (fun _ _ _ h => h) (Or.inl ⟨by rfl, ?y10⟩) hH0 ?_
      case y10 => intro w hSw; go_simp; try with_reducible rfl
      try simp only [Act.put, List.setIfInBounds_toArray, List.set_cons_zero, List.set_cons_succ]
      refine takeH (i := 11) (d := 55) (v := ?_) rfl rfl (by kernel_rfl) (by kernel_rfl) (by kernel_rfl) (fun _ _ _ h => h) (Or.inl ⟨by rfl, ?y11⟩) hH0 ?_
      case y11 => intro w hSw; go_simp; try with_reducible rfl
      try simp only [Act.put, List.setIfInBounds_toArray, List.set_cons_zero, List.set_cons_succ]
      refine takeH (i := 12) (d := 56) (v := ?_) rfl rfl (by kernel_rfl) (by kernel_rfl) (by kernel_rfl) (fun _ _ _ h => h) (Or.inl ⟨by rfl, ?y12⟩) hH0 ?_
      case y12 => intro w hSw; go_simp; try with_reducible rfl
      try simp only [Act.put, List.setIfInBounds_toArray, List.set_cons_zero, List.set_cons_succ]
      refine takeH (i := 13) (d := 57) (v := undef) rfl rfl (by kernel_rfl) (by kernel_rfl) (by kernel_rfl) (fun _ _ _ h => h) (Or.inr ⟨by rfl, rfl⟩) hH0 ?_
      try simp only [Act.put, List.setIfInBounds_toArray, List.set_cons_zero, List.set_cons_succ]
      refine takeH (i := 14) (d := 58) (v := undef) rfl rfl (by kernel_rfl) (by kernel_rfl) (by kernel_rfl) (fun _ _ _ h => h) (Or.inr ⟨by rfl, rfl⟩) hH0 ?_
      try simp only [Act.put, List.setIfInBounds_toArray, List.set_cons_zero, List.set_cons_succ]
      refine takeH (i := 15) (d := 59) (v := ?_) rfl rfl (by kernel_rfl) (by kernel_rfl) (by kernel_rfl) (fun _ _ _ h => h) (Or.inl ⟨by rfl, ?y15⟩) hH0 ?_
      case y15 => intro w hSw; go_simp; try with_reducible rfl
      try simp only [Act.put, List.setIfInBounds_toArray, List.set_cons_zero, List.set_cons_succ]
      refine takeH (i := 16) (d := 60) (v := ?_) rfl rfl (by kernel_rfl) (by kernel_rfl) (by kernel_rfl) (fun _ _ _ h => h) (Or.inl ⟨by rfl, ?y16⟩) hH0 ?_
      case y16 => intro w hSw; go_simp; try with_reducible rfl
      try simp only [Act.put, List.setIfInBounds_toArray, List.set_cons_zero, List.set_cons_succ]
      refine takeH (i := 17) (d := 61) (v := ?_) rfl rfl (by kernel_rfl) (by kernel_rfl) (by kernel_rfl) (fun _ _ _ h => h) (Or.inl ⟨by rfl, ?y17⟩) hH0 ?_
      case y17 => intro w hSw; go_simp; try with_reducible rfl
      try simp only [Act.put, List.setIfInBounds_toArray, List.set_cons_zero, List.set_cons_succ]
      refine wpAnyH_ready (rs := [18]) (by kernel_rfl) (by simp) ?_
      refine AllReadyH.cons rfl (fun K hK => ?_) AllReadyH.nil
      go_simp
      refine (HA.out _).mono ?_
      rintro e w' ⟨rfl, hb⟩
      go_wp2_with fail
      refine hK.out _ _ (keepT hb hH0) (fun hH1 => ?_)
      clear hK K hb hH0
      try simp only [Act.put, List.setIfInBounds_toArray, List.set_cons_zero, List.set_cons_succ]
      refine takeH (i := 19) (d := 63) (v := ?_) rfl rfl (by kernel_rfl) (by kernel_rfl) (by kernel_rfl) (fun _ _ _ h => h) (Or.inl ⟨by rfl, ?y19⟩) hH1 ?_
      case y19 => intro w hSw; go_simp; try with_reducible rfl
      try simp only [Act.put, List.setIfInBounds_toArray, List.set_cons_zero, List.set_cons_succ]
      refine takeH (i := 20) (d := 6) (v := ?_) rfl rfl (by kernel_rfl) (by kernel_rfl) (by kernel_rfl) (fun _ _ _ h => h) (Or.inl ⟨by rfl, ?y20⟩) hH1 ?_
      case y20 => intro w hSw; go_simp; try with_reducible rfl
      try simp only [Act.put, List.setIfInBounds_toArray, List.set_cons_zero, List.set_cons_succ]
      refine wpAnyH_done (by kernel_rfl) ?_ _
      go_wp2_with fail
      go_ret
      exact ⟨rfl, hH1.2.2⟩
    · have hge : decide (8 ≤ a.tmod 127) = false := by rw [Int.tmod_eq_emod_of_nonneg a0]; simpa using h8
      clear h0 h8
      refine wp_region_held_drew (S := fun w' => HAt w' g1 32 Y ∧ HAt w' w.heap.size 26 X ∧ Below w.heap.size w w') (by kernel_rfl) HS0 (fun hH0 => ?_)
      refine takeH (i := 0) (d := 44) (v := ?_) rfl rfl (by kernel_rfl) (by kernel_rfl) (by kernel_rfl) (fun _ _ _ h => h) (Or.inl ⟨by rfl, ?y0⟩) hH0 ?_
      case y0 => intro w hSw; go_simp; try with_reducible rfl
      try simp only [Act.put, List.setIfInBounds_toArray, List.set_cons_zero, List.set_cons_succ]
      refine takeH (i := 1) (d := 45) (v := ?_) rfl rfl (by kernel_rfl) (by kernel_rfl) (by kernel_rfl) (fun _ _ _ h => h) (Or.inl ⟨by rfl, ?y1⟩) hH0 ?_
      case y1 => intro w hSw; go_simp; try with_reducible rfl
      try simp only [Act.put, List.setIfInBounds_toArray, List.set_cons_zero, List.set_cons_succ]
      refine takeH (i := 2) (d := 46) (v := ?_) rfl rfl (by kernel_rfl) (by kernel_rfl) (by kernel_rfl) (fun _ _ _ h => h) (Or.inl ⟨by rfl, ?y2⟩) hH0 ?_
      case y2 => intro w hSw; go_simp; try with_reducible rfl
      try simp only [Act.put, List.setIfInBounds_toArray, List.set_cons_zero, List.set_cons_succ]
      refine takeH (i := 3) (d := 47) (v := undef) rfl rfl (by kernel_rfl) (by kernel_rfl) (by kernel_rfl) (fun _ _ _ h => h) (Or.inr ⟨by rfl, rfl⟩) hH0 ?_
      try simp only [Act.put, List.setIfInBounds_toArray, List.set_cons_zero, List.set_cons_succ]
      refine takeH (i := 4) (d := 48) (v := undef) rfl rfl (by kernel_rfl) (by kernel_rfl) (by kernel_rfl) (fun _ _ _ h => h) (Or.inr ⟨by rfl, rfl⟩) hH0 ?_
      try simp only [Act.put, List.setIfInBounds_toArray, List.set_cons_zero, List.set_cons_succ]
      refine takeH (i := 5) (d := 49) (v := undef) rfl rfl (by kernel_rfl) (by kernel_rfl) (by kernel_rfl) (fun _ _ _ h => h) (Or.inr ⟨by rfl, rfl⟩) hH0 ?_
      try simp only [Act.put, List.setIfInBounds_toArray, List.set_cons_zero, List.set_cons_succ]
      refine takeH (i := 6) (d := 50) (v := undef) rfl rfl (by kernel_rfl) (by kernel_rfl) (by kernel_rfl) (fun _ _ _ h => h) (Or.inr ⟨by rfl, rfl⟩) hH0 ?_
      try simp only [Act.put, List.setIfInBounds_toArray, List.set_cons_zero, List.set_cons_succ]
      refine takeH (i := 7) (d := 51) (v := ?_) rfl rfl (by kernel_rfl) (by kernel_rfl) (by kernel_rfl) (fun _ _ _ h => h) (Or.inl ⟨by rfl, ?y7⟩) hH0 ?_
      case y7 => intro w hSw; go_simp; try with_reducible rfl
      try simp only [Act.put, List.setIfInBounds_toArray, List.set_cons_zero, List.set_cons_succ]
      refine takeH (i := 8) (d := 52) (v := ?_) rfl rfl (by kernel_rfl) (by kernel_rfl) (by kernel_rfl) (fun _ _ _ h => h) (Or.inl ⟨by rfl, ?y8⟩) hH0 ?_
      case y8 => intro w hSw; go_simp; try with_reducible rfl
      try simp only [Act.put, List.setIfInBounds_toArray, List.set_cons_zero, List.set_cons_succ]
      refine takeH (i := 9) (d := 53) (v := ?_) rfl rfl (by kernel_rfl) (by kernel_rfl) (by kernel_rfl) (fun _ _ _ h => h) (Or.inl ⟨by rfl, ?y9⟩) hH0 ?_
      case y9 => intro w hSw; go_simp; try with_reducible rfl
      try simp only [Act.put, List.setIfInBounds_toArray, List.set_cons_zero, List.set_cons_succ]
      refine takeH (i := 10) (d := 54) (v := ?_) rfl rfl (by kernel_rfl) (by kernel_rfl) (by kernel_rfl) (fun _ _ _ h => h) (Or.inl ⟨by rfl, ?y10⟩) hH0 ?_
      case y10 => intro w hSw; go_simp; try with_reducible rfl
      try simp only [Act.put, List.setIfInBounds_toArray, List.set_cons_zero, List.set_cons_succ]
      refine takeH (i := 11) (d := 55) (v := ?_) rfl rfl (by kernel_rfl) (by kernel_rfl) (by kernel_rfl) (fun _ _ _ h => h) (Or.inl ⟨by rfl, ?y11⟩) hH0 ?_
      case y11 => intro w hSw; go_simp; try with_reducible rfl
      try simp only [Act.put, List.setIfInBounds_toArray, List.set_cons_zero, List.set_cons_succ]
      refine takeH (i := 12) (d := 56) (v := ?_) rfl rfl (by kernel_rfl) (by kernel_rfl) (by kernel_rfl) (fun _ _ _ h => h) (Or.inl ⟨by rfl, ?y12⟩) hH0 ?_
      case y12 => intro w hSw; go_simp; try with_reducible rfl
      try simp only [Act.put, List.setIfInBounds_toArray, List.set_cons_zero, List.set_cons_succ]
      refine takeH (i := 13) (d := 57) (v := ?_) rfl rfl (by kernel_rfl) (by kernel_rfl) (by kernel_rfl) (fun _ _ _ h => h) (Or.inl ⟨by rfl, ?y13⟩) hH0 ?_
      case y13 => intro w hSw; go_simp; try with_reducible rfl
      try simp only [Act.put, List.setIfInBounds_toArray, List.set_cons_zero, List.set_cons_succ]
      refine takeH (i := 14) (d := 58) (v := ?_) rfl rfl (by kernel_rfl) (by kernel_rfl) (by kernel_rfl) (fun _ _ _ h => h) (Or.inl ⟨by rfl, ?y14⟩) hH0 ?_
      case y14 => intro w hSw; go_simp; try with_reducible rfl
      try simp only [Act.put, List.setIfInBounds_toArray, List.set_cons_zero, List.set_cons_succ]
      refine takeH (i := 15) (d := 59) (v := ?_) rfl rfl (by kernel_rfl) (by kernel_rfl) (by kernel_rfl) (fun _ _ _ h => h) (Or.inl ⟨by rfl, ?y15⟩) hH0 ?_
      case y15 => intro w hSw; go_simp; try with_reducible rfl
      try simp only [Act.put, List.setIfInBounds_toArray, List.set_cons_zero, List.set_cons_succ]
      refine takeH (i := 16) (d := 60) (v := ?_) rfl rfl (by kernel_rfl) (by kernel_rfl) (by kernel_rfl) (fun _ _ _ h => h) (Or.inl ⟨by rfl, ?y16⟩) hH0 ?_
      case y16 => intro w hSw; go_simp; try with_reducible rfl
      try simp only [Act.put, List.setIfInBounds_toArray, List.set_cons_zero, List.set_cons_succ]
      refine takeH (i := 17) (d := 61) (v := ?_) rfl rfl (by kernel_rfl) (by kernel_rfl) (by kernel_rfl) (fun _ _ _ h => h) (Or.inl ⟨by rfl, ?y17⟩) hH0 ?_
      case y17 => intro w hSw; go_simp; try with_reducible rfl
      try simp only [Act.put, List.setIfInBounds_toArray, List.set_cons_zero, List.set_cons_succ]
      refine wpAnyH_ready (rs := [18]) (by kernel_rfl) (by simp) ?_
      refine AllReadyH.cons rfl (fun K hK => ?_) AllReadyH.nil
      go_simp
      refine (HA.out _).mono ?_
      rintro e w' ⟨rfl, hb⟩
      go_wp2_with fail
      refine hK.out _ _ (keepT hb hH0) (fun hH1 => ?_)
      clear hK K hb hH0
      try simp only [Act.put, List.setIfInBounds_toArray, List.set_cons_zero, List.set_cons_succ]
      refine takeH (i := 19) (d := 63) (v := ?_) rfl rfl (by kernel_rfl) (by kernel_rfl) (by kernel_rfl) (fun _ _ _ h => h) (Or.inl ⟨by rfl, ?y19⟩) hH1 ?_
      case y19 => intro w hSw; go_simp; try with_reducible rfl
      try simp only [Act.put, List.setIfInBounds_toArray, List.set_cons_zero, List.set_cons_succ]
      refine takeH (i := 20) (d := 6) (v := ?_) rfl rfl (by kernel_rfl) (by kernel_rfl) (by kernel_rfl) (fun _ _ _ h => h) (Or.inl ⟨by rfl, ?y20⟩) hH1 ?_
      case y20 => intro w hSw; go_simp; try with_reducible rfl
      try simp only [Act.put, List.setIfInBounds_toArray, List.set_cons_zero, List.set_cons_succ]
      refine wpAnyH_done (by kernel_rfl) ?_ _
      go_wp2_with fail
      go_ret
      exact ⟨rfl, hH1.2.2⟩
set_option maxRecDepth 20000 in
theorem bit_out (X : Hd) (a b : Int) (w : World) (hm : MayH X) (h : (encH X).2 ≠ 0 ∨ (encH X).2 = 0 ∧ b = 0) : Calls Try.prog 6 #[.agg (cH X), .int .u8 a, .int .u8 b] w fun e w' => e = .returned (.bool true) ∧ Below w.heap.size w w' := by
  have HE := Lib.hid (fun W => encode_any X W hm)
  obtain ⟨s, hs⟩ : ∃ s, str (encH X).1 = s := ⟨_, rfl⟩
  obtain ⟨r, hr⟩ : ∃ r, (encH X).2 = r := ⟨_, rfl⟩
  rw [hr] at h
  rw [hs, hr] at HE
  have HO := Lib.hid (fun W => own_any X W)
  have HA := Lib.hid awake_any
  have H0 := HAt.made w X 26
  clear hs hr hm
  go_enter Try.func6, Try.ntmps6
  go_wp2_with (first | (refine rload_head (by rfl) _ rfl _ rfl _ X (by assumption) ?_) | fail)
  refine (HO.out _).mono ?_
  rintro e w1 ⟨rfl, hb⟩
  have u1 : Below w.heap.size w w1 := Below.trans (by go_grown) (hb.mono (by rw [World.size_alloc]; omega))
  have HU := Lib.hid u1
  clear hb H0 u1
  go_wp2_with fail
  refine (HE.out _).mono ?_
  rintro e w2 ⟨rfl, hb⟩
  have HU2 := Lib.hid (HU.out.trans (hb.mono HU.out.size))
  clear hb HU HE
  rcases h with h | ⟨rfl, rfl⟩
  · have hne : (r != 0) = true := by simp only [bne_iff_ne, ne_eq]; exact h
    clear h
    go_wp2_with fail
    refine (HA.out _).mono ?_
    rintro e w3 ⟨rfl, hb⟩
    have u3 := HU2.out.trans (hb.mono HU2.out.size)
    clear hb
    go_wp2_with fail
    go_ret
    exact ⟨rfl, u3⟩
  · go_wp2_with fail
    refine (HA.out _).mono ?_
    rintro e w3 ⟨rfl, hb⟩
    have u3 := HU2.out.trans (hb.mono HU2.out.size)
    clear hb
    go_wp2_with fail
    go_ret
    exact ⟨rfl, u3⟩
theorem bit_all (X : Hd) (a b : Int) (w : World) (hm : MayH X) (a0 : 0 ≤ a) (a1 : a ≤ 255) (b0 : 0 ≤ b) (b1 : b ≤ 255) : Calls Try.prog 6 #[.agg (cH X), .int .u8 a, .int .u8 b] w fun e w' => e = .returned (.bool true) ∧ Below w.heap.size w w' := by
  by_cases hc : ckH X = 0
  · by_cases hb : b = 0
    · exact bit_out X a b w hm (.inr ⟨by rw [encH, if_pos hc], hb⟩)
    · exact bit_walk X a b w hm a0 a1 b0 b1 hc hb
  · exact bit_out X a b w hm (.inl (by rw [encH, if_neg hc]; exact hc))
end Go.Proofs.Ytodjdeilaimjaaa
