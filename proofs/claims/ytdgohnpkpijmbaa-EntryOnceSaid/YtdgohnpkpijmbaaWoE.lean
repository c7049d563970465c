/- The walk of EntryOnce. -/
import Derived.Test.YtdgohnpkpijmbaaAk
namespace Go.Proofs.Ytdgohnpkpijmbaa
open Go.RowKit
set_option linter.unusedVariables false
set_option linter.unusedSimpArgs false
theorem tell_snoc (l : List En) (e : En) (d : Int) : tellN (l ++ [e]) d = tellN l d + (if hasN e d = true then 1 else 0) := by
  unfold tellN
  rw [List.filter_append, List.length_append]
  congr 1
  by_cases h : hasN e d = true <;> simp [h]
theorem tell_le (l : List En) (d : Int) : tellN l d ≤ l.length := List.length_filter_le _ _
theorem row_zero {l : List En} (h : rowN l = 0) : rowG (-1) l = 0 := by
  unfold rowN at h
  split at h
  · contradiction
  · exact h
theorem row_len {l : List En} (h : rowN l = 0) : l.length ≤ 4096 := by
  unfold rowN at h
  split at h
  · contradiction
  · omega
theorem row_take {l : List En} (h : rowN l = 0) (k : Nat) : rowN (l.take k) = 0 := by
  have hl := row_len h
  unfold rowN
  rw [if_neg (by rw [List.length_take]; omega)]
  exact rowG_left _ _ (l.drop k) (by rw [List.take_append_drop]; exact row_zero h)
theorem fold_ge (l : List En) (hm : MaysN l) : -1 ≤ l.foldl (fun _ e => laN e) (-1) := by
  have key : ∀ (l : List En) (p : Int), -1 ≤ p → MaysN l → -1 ≤ l.foldl (fun _ e => laN e) p := by
    intro l
    induction l with
    | nil => intro p hp _; exact hp
    | cons e l ih =>
      intro p _ hm
      rw [List.foldl_cons]
      refine ih _ ?_ (fun x hx => hm x (List.mem_cons_of_mem _ hx))
      have hme := hm e (List.mem_cons_self ..)
      by_cases hc : ckN e = 0
      · have := la_ge e hme hc
        have := hme.1.1
        omega
      · unfold laN; rw [if_neg hc]; omega
  exact key l (-1) (Int.le_refl _) hm
theorem row_drop {l : List En} (hm : MaysN l) (h : rowN l = 0) (k : Nat) : rowN (l.drop k) = 0 := by
  have hl := row_len h
  unfold rowN
  rw [if_neg (by rw [List.length_drop]; omega)]
  have h0 := row_zero h
  rw [← List.take_append_drop k l, rowG_append _ _ _ (row_zero (row_take h k))] at h0
  exact rowG_from _ _ _ h0 (fold_ge _ (fun e he => hm e (List.mem_of_mem_take he)))
theorem row_step {l : List En} (hm : MaysN l) (h : rowN l = 0) (i : Nat) (e : En) (he : l[i]? = some e) : e.id ≤ laN e ∧ prvN l i < e.id := by
  have h1 := (rowG_at l i e he (row_zero (row_take h i))).1
  rw [row_zero h] at h1
  by_cases hc : ckN e = 0
  · rw [if_neg (fun f => f hc)] at h1
    by_cases ho : e.id ≤ prvN l i
    · rw [if_pos ho] at h1; omega
    · exact ⟨(la_ge e (hm e (List.mem_of_getElem? he)) hc).1, by omega⟩
  · rw [if_pos hc] at h1; exact absurd h1.symm hc
theorem ens_take {w : World} {g off cap : Nat} {l : List En} (h : EnsAt w (.slice (some ⟨g, off, none⟩) l.length cap) l) (k : Nat) (hk : k ≤ l.length) : EnsAt w (.slice (some ⟨g, off, none⟩) k cap) (l.take k) := by
  obtain ⟨a, c, hv, h1, h2, hc⟩ := h
  obtain ⟨rfl, rfl⟩ : some ⟨g, off, none⟩ = a ∧ cap = c := by simpa using hv
  have hz : (l.take k).length = k := by rw [List.length_take]; omega
  refine ⟨_, cap, by rw [hz], by omega, h2, fun j t ht => ?_⟩
  rw [List.getElem?_take] at ht
  split at ht
  · exact hc j t ht
  · cases ht
theorem ens_drop {w : World} {g off cap : Nat} {l : List En} (h : EnsAt w (.slice (some ⟨g, off, none⟩) l.length cap) l) (k : Nat) (hk : k ≤ l.length) : EnsAt w (.slice (some ⟨g, off + k * 4, none⟩) (l.length - k) (cap - k)) (l.drop k) := by
  obtain ⟨a, c, hv, h1, h2, hc⟩ := h
  obtain ⟨rfl, rfl⟩ : some ⟨g, off, none⟩ = a ∧ cap = c := by simpa using hv
  refine ⟨_, cap - k, by rw [List.length_drop], by rw [List.length_drop]; omega, by omega, fun j t ht => ?_⟩
  rw [List.getElem?_drop] at ht
  obtain ⟨g', off', ha, hg, c0, c1, c2, c3⟩ := hc (k + j) t ht
  obtain ⟨rfl, rfl⟩ : g = g' ∧ off = off' := by simpa using ha
  have e4 : off + k * 4 + j * 4 = off + (k + j) * 4 := by omega
  exact ⟨g, _, rfl, hg, by rw [e4]; exact c0, by rw [e4]; exact c1, by rw [e4]; exact c2, by rw [e4]; exact c3⟩
theorem ens_empty (w : World) (a : Option Addr) (l : List En) (k : Nat) (h : l.length ≤ k) : EnsAt w (.slice a (l.length - k) 0) (l.drop k) := by
  have e : l.drop k = [] := List.drop_eq_nil_of_le h
  rw [e, show l.length - k = 0 from by omega]
  exact ⟨a, 0, rfl, Nat.le_refl _, by unfold maxLen; omega, fun j t ht => by simp at ht⟩
set_option maxRecDepth 20000 in
set_option maxHeartbeats 4000000 in
theorem once_walk (v1 : Value) (l : List En) (q a : Int) (w : World) (h1 : EnsAt w v1 l) (m1 : MaysN l) (hbig : l.length * 24 ≤ 140737488351232) (a0 : 0 ≤ a) (a1 : a ≤ 255) : Calls Try.prog 5 #[v1, .int .u64 q, .int .u8 a] w fun x w' => x = .returned (.bool true) ∧ Below w.heap.size w w' := by
  have HA := Lib.hid awakeN_any
  have HO1 := Lib.hid (fun W h => ownN_any v1 l W h hbig)
  have HS1 := Lib.hid h1
  have PR := Lib.hid (fun v W h => prow_any v l W h m1)
  have HM := Lib.hid m1
  by_cases g1 : 200 < l.length
  · obtain ⟨al, cap, rfl, _⟩ := h1
    have d1 : decide (200 < (l.length : Int)) = true := by simp; omega
    clear g1 m1
    go_enter Try.func5, Try.ntmps5
    go_wp2_with fail
    refine (HO1.out _ HS1.out).mono ?_
    rintro x w1 ⟨x1, rfl, ho1, hb1⟩
    have HB1 := Lib.hid hb1
    clear hb1 ho1
    go_wp2_with fail
    refine (HA.out _).mono ?_
    rintro x w2 ⟨rfl, hb⟩
    have u2 := HB1.out.trans (hb.mono HB1.out.size)
    clear hb
    go_wp2_with fail
    go_ret
    exact ⟨rfl, u2⟩
  have d1 : decide (200 < (l.length : Int)) = false := by simp; omega
  obtain ⟨r, hr⟩ : ∃ r, rowN l = r := ⟨_, rfl⟩
  rw [hr] at PR
  by_cases hr0 : r = 0
  case neg =>
    have hne : (r != 0) = true := by simp only [bne_iff_ne, ne_eq]; exact hr0
    obtain ⟨al, cap, rfl, _⟩ := h1
    clear hr hr0 m1 g1
    go_enter Try.func5, Try.ntmps5
    go_wp2_with fail
    refine (HO1.out _ HS1.out).mono ?_
    rintro x w1 ⟨x1, rfl, ho1, hb1⟩
    have HB1 := Lib.hid hb1
    have HX1 := Lib.hid ho1.ensAt
    clear hb1 ho1
    go_wp2_with fail
    refine (PR.out _ _ HX1.out).mono ?_
    rintro x w2 ⟨rfl, hb⟩
    have HB2 := Lib.hid (HB1.out.trans (hb.mono HB1.out.size))
    clear hb
    go_wp2_with fail
    refine (HA.out _).mono ?_
    rintro x w3 ⟨rfl, hb⟩
    have u3 := HB2.out.trans (hb.mono HB2.out.size)
    clear hb
    go_wp2_with fail
    go_ret
    exact ⟨rfl, u3⟩
  subst hr0
  have HR := Lib.hid hr
  have HTell := Lib.hid (tell_once (-1) l q m1 (row_zero hr))
  have HTk := Lib.hid (fun k => row_take hr k)
  have HDr := Lib.hid (fun k => row_drop m1 hr k)
  have HSt := Lib.hid (fun i e he => row_step m1 hr i e he)
  have PT := Lib.hid (fun v k W h => prow_any v (l.take k) W h (fun e he => m1 e (List.mem_of_mem_take he)))
  have PD := Lib.hid (fun v k W h => prow_any v (l.drop k) W h (fun e he => m1 e (List.mem_of_mem_drop he)))
  clear m1 hr
  obtain ⟨al, cap, rfl, _⟩ := h1
  go_enter Try.func5, Try.ntmps5
  go_wp2_with fail
  refine (HO1.out _ HS1.out).mono ?_
  rintro x w1 ⟨x1, rfl, ho1, hb1⟩
  have HB1 := Lib.hid hb1
  have hx1 := ho1.ensAt
  have HX1 := Lib.hid hx1
  have HForm : Hid (x1 = .slice none 0 0 ∨ ∃ g cap, x1 = .slice (some ⟨g, 0, none⟩) l.length cap) := Lib.hid (by
    rcases ho1.form with ⟨h, _⟩ | ⟨g, cap, h, _⟩
    · exact .inl h
    · exact .inr ⟨g, cap, h⟩)
  clear hb1 ho1
  go_wp2_with fail
  refine (PR.out _ _ HX1.out).mono ?_
  rintro x w2 ⟨rfl, hb⟩
  have HB2 := Lib.hid (HB1.out.trans (hb.mono HB1.out.size))
  have hx2 := hx1.below hb
  have HX2 := Lib.hid hx2
  clear hb hx1 HX1 HB1
  obtain ⟨a1', cap1, rfl, hcp, hmx, hcx⟩ := hx2
  have HCX := Lib.hid hcx
  clear hcx
  go_wp2_with fail
  go_loopw [8, 9] (fun n s wr => ∃ i c : Nat, i ≤ l.length ∧ s = .int .i64 i ∧ n = .int .i64 c ∧ Hid (c = tellN (l.take i) q) ∧ c ≤ i ∧ Hid (Below w2.heap.size w2 wr)) (fun _ s _ => l.length - (intOf s).toNat)
  case atStart => exact ⟨0, 0, Nat.zero_le _, rfl, rfl, Lib.hid rfl, by omega, Lib.hid (Below.refl _ _)⟩
  case round =>
    obtain ⟨i, c, hi, rfl, rfl, HCo, hci, HBW⟩ := hrel
    by_cases hlt : i < l.length
    · obtain ⟨e, he⟩ : ∃ t, l[i]? = some t := ⟨_, List.getElem?_eq_getElem hlt⟩
      obtain ⟨g, off, rfl, hg, l0, l1, l2, l3⟩ := HCX.out i e he
      have hme := HM.out e (List.mem_of_getElem? he)
      obtain ⟨hs1, hs2⟩ := HSt.out i e he
      have PH := Lib.hid (fun W => phas_any e q W hme)
      have PL := Lib.hid (fun W => plast_any e W hme)
      have HT : Hid (tellN (l.take (i + 1)) q = tellN (l.take i) q + (if hasN e q = true then 1 else 0)) := Lib.hid (by rw [take_one l i e he, tell_snoc])
      have hi2 : (i : Int) < (l.length : Int) := by omega
      have hi4 : (0 : Int) ≤ (i : Int) := by omega
      have hwc : IntKind.i64.wrap ((c : Int) + 1) = (c : Int) + 1 := by rw [IntKind.wrap_i64] <;> omega
      have hcl := keep1E (Below.refl _ _) ⟨cells4 HBW.out ⟨l0, l1, l2, l3⟩, HBW.out⟩
      have HCL := Lib.hid hcl
      obtain ⟨⟨k0, k1, k2, k3⟩, hbw2⟩ := hcl
      obtain ⟨la, hla⟩ : ∃ la, laN e = la := ⟨_, rfl⟩
      rw [hla] at PL hs1
      have d3 : decide (la < e.id) = false := by simp; omega
      obtain ⟨b, hb⟩ : ∃ b, hasN e q = b := ⟨_, rfl⟩
      rw [hb] at PH HT
      unfold eC at PH PL
      clear he hme l0 l1 l2 l3 hbw2 hla hs1 hb
      go_wp2_with fail
      refine (PH.out _).mono ?_
      rintro x w3 ⟨rfl, hb⟩
      have hcl3 := keep1E hb HCL.out
      have HCL3 := Lib.hid hcl3
      clear hb k0 k1 k2 k3 hcl3 HCL
      have HC1 : Hid ((c + (if b = true then 1 else 0) : Nat) = tellN (l.take (i + 1)) q) := Lib.hid (by rw [HT.out, HCo.out])
      clear HT HCo
      by_cases hz : i = 0
      · have hdz : decide (0 < (i : Int)) = false := by simp; omega
        have hdn : decide (0 < i) = false := by simp; omega
        have HS0 := keep1E (Below.drew (Below.refl _ _)) HCL3.out
        clear hz HCL3
        cases b
        · go_upto_region 10 with fail
          refine wp_region_held_drew (S := fun w' => (w'.cell? ⟨g, off + i * 4, none⟩ = some (.int .u64 e.id) ∧ w'.cell? ⟨g, off + i * 4 + 1, none⟩ = some (.int .u64 e.off) ∧ w'.cell? ⟨g, off + i * 4 + 2, none⟩ = some (.int .u32 e.ln) ∧ w'.cell? ⟨g, off + i * 4 + 3, none⟩ = some (.int .u32 e.rn)) ∧ Below w2.heap.size w2 w') (by kernel_rfl) HS0 (fun hH0 => ?_)
          refine takeH (i := 0) (d := 36) (v := ?_) rfl rfl (by kernel_rfl) (by kernel_rfl) (by kernel_rfl) (fun _ _ _ h => h) (Or.inl ⟨by rfl, ?y0⟩) hH0 ?_
          case y0 => intro w hSw; go_simp; try with_reducible rfl
          try simp only [Act.put, List.setIfInBounds_toArray, List.set_cons_zero, List.set_cons_succ]
          refine takeH (i := 1) (d := 37) (v := ?_) rfl rfl (by kernel_rfl) (by kernel_rfl) (by kernel_rfl) (fun _ _ _ h => h) (Or.inl ⟨by rfl, ?y1⟩) hH0 ?_
          case y1 => intro w hSw; go_simp; try with_reducible rfl
          try simp only [Act.put, List.setIfInBounds_toArray, List.set_cons_zero, List.set_cons_succ]
          refine takeH (i := 2) (d := 38) (v := ?_) rfl rfl (by kernel_rfl) (by kernel_rfl) (by kernel_rfl) (fun _ _ _ h => h) (Or.inl ⟨by rfl, ?y2⟩) hH0 ?_
          case y2 => intro w hSw; go_simp; try with_reducible rfl
          try simp only [Act.put, List.setIfInBounds_toArray, List.set_cons_zero, List.set_cons_succ]
          refine takeH (i := 3) (d := 39) (v := ?_) rfl rfl (by kernel_rfl) (by kernel_rfl) (by kernel_rfl) (fun _ _ _ h => h) (Or.inl ⟨by rfl, ?y3⟩) hH0 ?_
          case y3 => intro w hSw; go_simp; try with_reducible rfl
          try simp only [Act.put, List.setIfInBounds_toArray, List.set_cons_zero, List.set_cons_succ]
          refine takeH (i := 5) (d := 41) (v := ?_) rfl rfl (by kernel_rfl) (by kernel_rfl) (by kernel_rfl) (fun _ _ _ h => h) (Or.inl ⟨by rfl, ?y5⟩) hH0 ?_
          case y5 => intro w hSw; go_simp; try with_reducible rfl
          try simp only [Act.put, List.setIfInBounds_toArray, List.set_cons_zero, List.set_cons_succ]
          refine takeH (i := 6) (d := 42) (v := ?_) rfl rfl (by kernel_rfl) (by kernel_rfl) (by kernel_rfl) (fun _ _ _ h => h) (Or.inl ⟨by rfl, ?y6⟩) hH0 ?_
          case y6 => intro w hSw; go_simp; try with_reducible rfl
          try simp only [Act.put, List.setIfInBounds_toArray, List.set_cons_zero, List.set_cons_succ]
          refine takeH (i := 7) (d := 43) (v := ?_) rfl rfl (by kernel_rfl) (by kernel_rfl) (by kernel_rfl) (fun _ _ _ h => h) (Or.inl ⟨by rfl, ?y7⟩) hH0 ?_
          case y7 => intro w hSw; go_simp; try with_reducible rfl
          try simp only [Act.put, List.setIfInBounds_toArray, List.set_cons_zero, List.set_cons_succ]
          refine takeH (i := 8) (d := 44) (v := ?_) rfl rfl (by kernel_rfl) (by kernel_rfl) (by kernel_rfl) (fun _ _ _ h => h) (Or.inl ⟨by rfl, ?y8⟩) hH0 ?_
          case y8 => intro w hSw; go_simp; try with_reducible rfl
          try simp only [Act.put, List.setIfInBounds_toArray, List.set_cons_zero, List.set_cons_succ]
          refine takeH (i := 9) (d := 45) (v := ?_) rfl rfl (by kernel_rfl) (by kernel_rfl) (by kernel_rfl) (fun _ _ _ h => h) (Or.inl ⟨by rfl, ?y9⟩) hH0 ?_
          case y9 => intro w hSw; go_simp; try with_reducible rfl
          try simp only [Act.put, List.setIfInBounds_toArray, List.set_cons_zero, List.set_cons_succ]
          refine wpAnyH_ready (rs := [4]) (by kernel_rfl) (by simp) ?_
          refine AllReadyH.cons rfl (fun K hK => ?_) AllReadyH.nil
          go_simp
          refine (PL.out _).mono ?_
          rintro e w' ⟨rfl, hb⟩
          go_wp2_with fail
          refine hK.out _ _ (keep1E hb hH0) (fun hH1 => ?_)
          clear hK K hb hH0
          try simp only [Act.put, List.setIfInBounds_toArray, List.set_cons_zero, List.set_cons_succ]
          refine takeH (i := 10) (d := 46) (v := ?_) rfl rfl (by kernel_rfl) (by kernel_rfl) (by kernel_rfl) (fun _ _ _ h => h) (Or.inl ⟨by rfl, ?y10⟩) hH1 ?_
          case y10 => intro w hSw; go_simp; try with_reducible rfl
          try simp only [Act.put, List.setIfInBounds_toArray, List.set_cons_zero, List.set_cons_succ]
          refine takeH (i := 11) (d := 47) (v := ?_) rfl rfl (by kernel_rfl) (by kernel_rfl) (by kernel_rfl) (fun _ _ _ h => h) (Or.inl ⟨by rfl, ?y11⟩) hH1 ?_
          case y11 => intro w hSw; go_simp; try with_reducible rfl
          try simp only [Act.put, List.setIfInBounds_toArray, List.set_cons_zero, List.set_cons_succ]
          refine takeH (i := 12) (d := 48) (v := ?_) rfl rfl (by kernel_rfl) (by kernel_rfl) (by kernel_rfl) (fun _ _ _ h => h) (Or.inl ⟨by rfl, ?y12⟩) hH1 ?_
          case y12 => intro w hSw; go_simp; try with_reducible rfl
          try simp only [Act.put, List.setIfInBounds_toArray, List.set_cons_zero, List.set_cons_succ]
          refine takeH (i := 13) (d := 49) (v := ?_) rfl rfl (by kernel_rfl) (by kernel_rfl) (by kernel_rfl) (fun _ _ _ h => h) (Or.inl ⟨by rfl, ?y13⟩) hH1 ?_
          case y13 => intro w hSw; go_simp; try with_reducible rfl
          try simp only [Act.put, List.setIfInBounds_toArray, List.set_cons_zero, List.set_cons_succ]
          refine takeH (i := 14) (d := 50) (v := ?_) rfl rfl (by kernel_rfl) (by kernel_rfl) (by kernel_rfl) (fun _ _ _ h => h) (Or.inl ⟨by rfl, ?y14⟩) hH1 ?_
          case y14 => intro w hSw; go_simp; try with_reducible rfl
          try simp only [Act.put, List.setIfInBounds_toArray, List.set_cons_zero, List.set_cons_succ]
          refine takeH (i := 15) (d := 51) (v := undef) rfl rfl (by kernel_rfl) (by kernel_rfl) (by kernel_rfl) (fun _ _ _ h => h) (Or.inr ⟨by rfl, rfl⟩) hH1 ?_
          try simp only [Act.put, List.setIfInBounds_toArray, List.set_cons_zero, List.set_cons_succ]
          refine takeH (i := 16) (d := 52) (v := undef) rfl rfl (by kernel_rfl) (by kernel_rfl) (by kernel_rfl) (fun _ _ _ h => h) (Or.inr ⟨by rfl, rfl⟩) hH1 ?_
          try simp only [Act.put, List.setIfInBounds_toArray, List.set_cons_zero, List.set_cons_succ]
          refine takeH (i := 17) (d := 53) (v := undef) rfl rfl (by kernel_rfl) (by kernel_rfl) (by kernel_rfl) (fun _ _ _ h => h) (Or.inr ⟨by rfl, rfl⟩) hH1 ?_
          try simp only [Act.put, List.setIfInBounds_toArray, List.set_cons_zero, List.set_cons_succ]
          refine takeH (i := 18) (d := 54) (v := undef) rfl rfl (by kernel_rfl) (by kernel_rfl) (by kernel_rfl) (fun _ _ _ h => h) (Or.inr ⟨by rfl, rfl⟩) hH1 ?_
          try simp only [Act.put, List.setIfInBounds_toArray, List.set_cons_zero, List.set_cons_succ]
          refine takeH (i := 19) (d := 55) (v := undef) rfl rfl (by kernel_rfl) (by kernel_rfl) (by kernel_rfl) (fun _ _ _ h => h) (Or.inr ⟨by rfl, rfl⟩) hH1 ?_
          try simp only [Act.put, List.setIfInBounds_toArray, List.set_cons_zero, List.set_cons_succ]
          refine takeH (i := 20) (d := 56) (v := undef) rfl rfl (by kernel_rfl) (by kernel_rfl) (by kernel_rfl) (fun _ _ _ h => h) (Or.inr ⟨by rfl, rfl⟩) hH1 ?_
          try simp only [Act.put, List.setIfInBounds_toArray, List.set_cons_zero, List.set_cons_succ]
          refine takeH (i := 21) (d := 57) (v := undef) rfl rfl (by kernel_rfl) (by kernel_rfl) (by kernel_rfl) (fun _ _ _ h => h) (Or.inr ⟨by rfl, rfl⟩) hH1 ?_
          try simp only [Act.put, List.setIfInBounds_toArray, List.set_cons_zero, List.set_cons_succ]
          refine takeH (i := 22) (d := 58) (v := undef) rfl rfl (by kernel_rfl) (by kernel_rfl) (by kernel_rfl) (fun _ _ _ h => h) (Or.inr ⟨by rfl, rfl⟩) hH1 ?_
          try simp only [Act.put, List.setIfInBounds_toArray, List.set_cons_zero, List.set_cons_succ]
          refine takeH (i := 23) (d := 59) (v := undef) rfl rfl (by kernel_rfl) (by kernel_rfl) (by kernel_rfl) (fun _ _ _ h => h) (Or.inr ⟨by rfl, rfl⟩) hH1 ?_
          try simp only [Act.put, List.setIfInBounds_toArray, List.set_cons_zero, List.set_cons_succ]
          refine takeH (i := 24) (d := 60) (v := undef) rfl rfl (by kernel_rfl) (by kernel_rfl) (by kernel_rfl) (fun _ _ _ h => h) (Or.inr ⟨by rfl, rfl⟩) hH1 ?_
          try simp only [Act.put, List.setIfInBounds_toArray, List.set_cons_zero, List.set_cons_succ]
          refine takeH (i := 25) (d := 61) (v := undef) rfl rfl (by kernel_rfl) (by kernel_rfl) (by kernel_rfl) (fun _ _ _ h => h) (Or.inr ⟨by rfl, rfl⟩) hH1 ?_
          try simp only [Act.put, List.setIfInBounds_toArray, List.set_cons_zero, List.set_cons_succ]
          refine takeH (i := 26) (d := 62) (v := undef) rfl rfl (by kernel_rfl) (by kernel_rfl) (by kernel_rfl) (fun _ _ _ h => h) (Or.inr ⟨by rfl, rfl⟩) hH1 ?_
          try simp only [Act.put, List.setIfInBounds_toArray, List.set_cons_zero, List.set_cons_succ]
          refine takeH (i := 27) (d := 63) (v := ?_) rfl rfl (by kernel_rfl) (by kernel_rfl) (by kernel_rfl) (fun _ _ _ h => h) (Or.inl ⟨by rfl, ?y27⟩) hH1 ?_
          case y27 => intro w hSw; go_simp; try with_reducible rfl
          try simp only [Act.put, List.setIfInBounds_toArray, List.set_cons_zero, List.set_cons_succ]
          refine takeH (i := 28) (d := 64) (v := ?_) rfl rfl (by kernel_rfl) (by kernel_rfl) (by kernel_rfl) (fun _ _ _ h => h) (Or.inl ⟨by rfl, ?y28⟩) hH1 ?_
          case y28 => intro w hSw; go_simp; try with_reducible rfl
          try simp only [Act.put, List.setIfInBounds_toArray, List.set_cons_zero, List.set_cons_succ]
          refine wpAnyH_done (by kernel_rfl) ?_ _
          go_wp2_with fail
          go_roundw
          case rel => exact ⟨i + 1, c, by omega, by go_num, rfl, Lib.hid (by simpa using HC1.out), by omega, Lib.hid hH1.2⟩
          case measure => simp [intOf]; omega
        · go_upto_region 10 with fail
          refine wp_region_held_drew (S := fun w' => (w'.cell? ⟨g, off + i * 4, none⟩ = some (.int .u64 e.id) ∧ w'.cell? ⟨g, off + i * 4 + 1, none⟩ = some (.int .u64 e.off) ∧ w'.cell? ⟨g, off + i * 4 + 2, none⟩ = some (.int .u32 e.ln) ∧ w'.cell? ⟨g, off + i * 4 + 3, none⟩ = some (.int .u32 e.rn)) ∧ Below w2.heap.size w2 w') (by kernel_rfl) HS0 (fun hH0 => ?_)
          refine takeH (i := 0) (d := 36) (v := ?_) rfl rfl (by kernel_rfl) (by kernel_rfl) (by kernel_rfl) (fun _ _ _ h => h) (Or.inl ⟨by rfl, ?y0⟩) hH0 ?_
          case y0 => intro w hSw; go_simp; try with_reducible rfl
          try simp only [Act.put, List.setIfInBounds_toArray, List.set_cons_zero, List.set_cons_succ]
          refine takeH (i := 1) (d := 37) (v := ?_) rfl rfl (by kernel_rfl) (by kernel_rfl) (by kernel_rfl) (fun _ _ _ h => h) (Or.inl ⟨by rfl, ?y1⟩) hH0 ?_
          case y1 => intro w hSw; go_simp; try with_reducible rfl
          try simp only [Act.put, List.setIfInBounds_toArray, List.set_cons_zero, List.set_cons_succ]
          refine takeH (i := 2) (d := 38) (v := ?_) rfl rfl (by kernel_rfl) (by kernel_rfl) (by kernel_rfl) (fun _ _ _ h => h) (Or.inl ⟨by rfl, ?y2⟩) hH0 ?_
          case y2 => intro w hSw; go_simp; try with_reducible rfl
          try simp only [Act.put, List.setIfInBounds_toArray, List.set_cons_zero, List.set_cons_succ]
          refine takeH (i := 3) (d := 39) (v := ?_) rfl rfl (by kernel_rfl) (by kernel_rfl) (by kernel_rfl) (fun _ _ _ h => h) (Or.inl ⟨by rfl, ?y3⟩) hH0 ?_
          case y3 => intro w hSw; go_simp; try with_reducible rfl
          try simp only [Act.put, List.setIfInBounds_toArray, List.set_cons_zero, List.set_cons_succ]
          refine takeH (i := 5) (d := 41) (v := ?_) rfl rfl (by kernel_rfl) (by kernel_rfl) (by kernel_rfl) (fun _ _ _ h => h) (Or.inl ⟨by rfl, ?y5⟩) hH0 ?_
          case y5 => intro w hSw; go_simp; try with_reducible rfl
          try simp only [Act.put, List.setIfInBounds_toArray, List.set_cons_zero, List.set_cons_succ]
          refine takeH (i := 6) (d := 42) (v := ?_) rfl rfl (by kernel_rfl) (by kernel_rfl) (by kernel_rfl) (fun _ _ _ h => h) (Or.inl ⟨by rfl, ?y6⟩) hH0 ?_
          case y6 => intro w hSw; go_simp; try with_reducible rfl
          try simp only [Act.put, List.setIfInBounds_toArray, List.set_cons_zero, List.set_cons_succ]
          refine takeH (i := 7) (d := 43) (v := ?_) rfl rfl (by kernel_rfl) (by kernel_rfl) (by kernel_rfl) (fun _ _ _ h => h) (Or.inl ⟨by rfl, ?y7⟩) hH0 ?_
          case y7 => intro w hSw; go_simp; try with_reducible rfl
          try simp only [Act.put, List.setIfInBounds_toArray, List.set_cons_zero, List.set_cons_succ]
          refine takeH (i := 8) (d := 44) (v := ?_) rfl rfl (by kernel_rfl) (by kernel_rfl) (by kernel_rfl) (fun _ _ _ h => h) (Or.inl ⟨by rfl, ?y8⟩) hH0 ?_
          case y8 => intro w hSw; go_simp; try with_reducible rfl
          try simp only [Act.put, List.setIfInBounds_toArray, List.set_cons_zero, List.set_cons_succ]
          refine takeH (i := 9) (d := 45) (v := ?_) rfl rfl (by kernel_rfl) (by kernel_rfl) (by kernel_rfl) (fun _ _ _ h => h) (Or.inl ⟨by rfl, ?y9⟩) hH0 ?_
          case y9 => intro w hSw; go_simp; try with_reducible rfl
          try simp only [Act.put, List.setIfInBounds_toArray, List.set_cons_zero, List.set_cons_succ]
          refine wpAnyH_ready (rs := [4]) (by kernel_rfl) (by simp) ?_
          refine AllReadyH.cons rfl (fun K hK => ?_) AllReadyH.nil
          go_simp
          refine (PL.out _).mono ?_
          rintro e w' ⟨rfl, hb⟩
          go_wp2_with fail
          refine hK.out _ _ (keep1E hb hH0) (fun hH1 => ?_)
          clear hK K hb hH0
          try simp only [Act.put, List.setIfInBounds_toArray, List.set_cons_zero, List.set_cons_succ]
          refine takeH (i := 10) (d := 46) (v := ?_) rfl rfl (by kernel_rfl) (by kernel_rfl) (by kernel_rfl) (fun _ _ _ h => h) (Or.inl ⟨by rfl, ?y10⟩) hH1 ?_
          case y10 => intro w hSw; go_simp; try with_reducible rfl
          try simp only [Act.put, List.setIfInBounds_toArray, List.set_cons_zero, List.set_cons_succ]
          refine takeH (i := 11) (d := 47) (v := ?_) rfl rfl (by kernel_rfl) (by kernel_rfl) (by kernel_rfl) (fun _ _ _ h => h) (Or.inl ⟨by rfl, ?y11⟩) hH1 ?_
          case y11 => intro w hSw; go_simp; try with_reducible rfl
          try simp only [Act.put, List.setIfInBounds_toArray, List.set_cons_zero, List.set_cons_succ]
          refine takeH (i := 12) (d := 48) (v := ?_) rfl rfl (by kernel_rfl) (by kernel_rfl) (by kernel_rfl) (fun _ _ _ h => h) (Or.inl ⟨by rfl, ?y12⟩) hH1 ?_
          case y12 => intro w hSw; go_simp; try with_reducible rfl
          try simp only [Act.put, List.setIfInBounds_toArray, List.set_cons_zero, List.set_cons_succ]
          refine takeH (i := 13) (d := 49) (v := ?_) rfl rfl (by kernel_rfl) (by kernel_rfl) (by kernel_rfl) (fun _ _ _ h => h) (Or.inl ⟨by rfl, ?y13⟩) hH1 ?_
          case y13 => intro w hSw; go_simp; try with_reducible rfl
          try simp only [Act.put, List.setIfInBounds_toArray, List.set_cons_zero, List.set_cons_succ]
          refine takeH (i := 14) (d := 50) (v := ?_) rfl rfl (by kernel_rfl) (by kernel_rfl) (by kernel_rfl) (fun _ _ _ h => h) (Or.inl ⟨by rfl, ?y14⟩) hH1 ?_
          case y14 => intro w hSw; go_simp; try with_reducible rfl
          try simp only [Act.put, List.setIfInBounds_toArray, List.set_cons_zero, List.set_cons_succ]
          refine takeH (i := 15) (d := 51) (v := undef) rfl rfl (by kernel_rfl) (by kernel_rfl) (by kernel_rfl) (fun _ _ _ h => h) (Or.inr ⟨by rfl, rfl⟩) hH1 ?_
          try simp only [Act.put, List.setIfInBounds_toArray, List.set_cons_zero, List.set_cons_succ]
          refine takeH (i := 16) (d := 52) (v := undef) rfl rfl (by kernel_rfl) (by kernel_rfl) (by kernel_rfl) (fun _ _ _ h => h) (Or.inr ⟨by rfl, rfl⟩) hH1 ?_
          try simp only [Act.put, List.setIfInBounds_toArray, List.set_cons_zero, List.set_cons_succ]
          refine takeH (i := 17) (d := 53) (v := undef) rfl rfl (by kernel_rfl) (by kernel_rfl) (by kernel_rfl) (fun _ _ _ h => h) (Or.inr ⟨by rfl, rfl⟩) hH1 ?_
          try simp only [Act.put, List.setIfInBounds_toArray, List.set_cons_zero, List.set_cons_succ]
          refine takeH (i := 18) (d := 54) (v := undef) rfl rfl (by kernel_rfl) (by kernel_rfl) (by kernel_rfl) (fun _ _ _ h => h) (Or.inr ⟨by rfl, rfl⟩) hH1 ?_
          try simp only [Act.put, List.setIfInBounds_toArray, List.set_cons_zero, List.set_cons_succ]
          refine takeH (i := 19) (d := 55) (v := undef) rfl rfl (by kernel_rfl) (by kernel_rfl) (by kernel_rfl) (fun _ _ _ h => h) (Or.inr ⟨by rfl, rfl⟩) hH1 ?_
          try simp only [Act.put, List.setIfInBounds_toArray, List.set_cons_zero, List.set_cons_succ]
          refine takeH (i := 20) (d := 56) (v := undef) rfl rfl (by kernel_rfl) (by kernel_rfl) (by kernel_rfl) (fun _ _ _ h => h) (Or.inr ⟨by rfl, rfl⟩) hH1 ?_
          try simp only [Act.put, List.setIfInBounds_toArray, List.set_cons_zero, List.set_cons_succ]
          refine takeH (i := 21) (d := 57) (v := undef) rfl rfl (by kernel_rfl) (by kernel_rfl) (by kernel_rfl) (fun _ _ _ h => h) (Or.inr ⟨by rfl, rfl⟩) hH1 ?_
          try simp only [Act.put, List.setIfInBounds_toArray, List.set_cons_zero, List.set_cons_succ]
          refine takeH (i := 22) (d := 58) (v := undef) rfl rfl (by kernel_rfl) (by kernel_rfl) (by kernel_rfl) (fun _ _ _ h => h) (Or.inr ⟨by rfl, rfl⟩) hH1 ?_
          try simp only [Act.put, List.setIfInBounds_toArray, List.set_cons_zero, List.set_cons_succ]
          refine takeH (i := 23) (d := 59) (v := undef) rfl rfl (by kernel_rfl) (by kernel_rfl) (by kernel_rfl) (fun _ _ _ h => h) (Or.inr ⟨by rfl, rfl⟩) hH1 ?_
          try simp only [Act.put, List.setIfInBounds_toArray, List.set_cons_zero, List.set_cons_succ]
          refine takeH (i := 24) (d := 60) (v := undef) rfl rfl (by kernel_rfl) (by kernel_rfl) (by kernel_rfl) (fun _ _ _ h => h) (Or.inr ⟨by rfl, rfl⟩) hH1 ?_
          try simp only [Act.put, List.setIfInBounds_toArray, List.set_cons_zero, List.set_cons_succ]
          refine takeH (i := 25) (d := 61) (v := undef) rfl rfl (by kernel_rfl) (by kernel_rfl) (by kernel_rfl) (fun _ _ _ h => h) (Or.inr ⟨by rfl, rfl⟩) hH1 ?_
          try simp only [Act.put, List.setIfInBounds_toArray, List.set_cons_zero, List.set_cons_succ]
          refine takeH (i := 26) (d := 62) (v := undef) rfl rfl (by kernel_rfl) (by kernel_rfl) (by kernel_rfl) (fun _ _ _ h => h) (Or.inr ⟨by rfl, rfl⟩) hH1 ?_
          try simp only [Act.put, List.setIfInBounds_toArray, List.set_cons_zero, List.set_cons_succ]
          refine takeH (i := 27) (d := 63) (v := ?_) rfl rfl (by kernel_rfl) (by kernel_rfl) (by kernel_rfl) (fun _ _ _ h => h) (Or.inl ⟨by rfl, ?y27⟩) hH1 ?_
          case y27 => intro w hSw; go_simp; try with_reducible rfl
          try simp only [Act.put, List.setIfInBounds_toArray, List.set_cons_zero, List.set_cons_succ]
          refine takeH (i := 28) (d := 64) (v := ?_) rfl rfl (by kernel_rfl) (by kernel_rfl) (by kernel_rfl) (fun _ _ _ h => h) (Or.inl ⟨by rfl, ?y28⟩) hH1 ?_
          case y28 => intro w hSw; go_simp; try with_reducible rfl
          try simp only [Act.put, List.setIfInBounds_toArray, List.set_cons_zero, List.set_cons_succ]
          refine wpAnyH_done (by kernel_rfl) ?_ _
          go_wp2_with fail
          go_roundw
          case rel => exact ⟨i + 1, c + 1, by omega, by go_num, by go_num, Lib.hid (by simpa using HC1.out), by omega, Lib.hid hH1.2⟩
          case measure => simp [intOf]; omega
      · obtain ⟨j, rfl⟩ : ∃ j, i = j + 1 := ⟨i - 1, by omega⟩
        obtain ⟨f, hf⟩ : ∃ t, l[j]? = some t := ⟨_, List.getElem?_eq_getElem (by omega)⟩
        have hpv : prvN l (j + 1) = laN f := by
          unfold prvN
          rw [if_neg (by omega), Nat.add_sub_cancel, List.getD_eq_getElem?_getD, hf]
          rfl
        rw [hpv] at hs2
        obtain ⟨g', off', ha, hg', f0, f1, f2, f3⟩ := HCX.out j f hf
        obtain ⟨rfl, rfl⟩ : g = g' ∧ off = off' := by simpa using ha
        have hmf := HM.out f (List.mem_of_getElem? hf)
        have PLF := Lib.hid (fun W => plast_any f W hmf)
        unfold eC at PLF
        have HS0 := keep2E (Below.drew (Below.refl _ _)) ⟨HCL3.out.1, cells4 HCL3.out.2 ⟨f0, f1, f2, f3⟩, HCL3.out.2⟩
        have hij : ((j + 1 : Nat) : Int) - 1 = (j : Int) := by omega
        have hwj : IntKind.i64.wrap (j : Int) = (j : Int) := by rw [IntKind.wrap_i64] <;> omega
        have hj2 : (j : Int) < (l.length : Int) := by omega
        have hj0 : (0 : Int) ≤ (j : Int) := by omega
        generalize hgi : j + 1 = i at *
        have hdz : decide (0 < (i : Int)) = true := by simp; omega
        have hdn : decide (0 < i) = true := by simp; omega
        obtain ⟨p, hp⟩ : ∃ p, laN f = p := ⟨_, rfl⟩
        rw [hp] at hs2 PLF
        have d4 : decide (e.id ≤ p) = false := by simp; omega
        clear hp hf f0 f1 f2 f3 hpv hz hmf hs2 HCL3
        cases b
        · go_upto_region 10 with fail
          refine wp_region_held_drew (S := fun w' => (w'.cell? ⟨g, off + i * 4, none⟩ = some (.int .u64 e.id) ∧ w'.cell? ⟨g, off + i * 4 + 1, none⟩ = some (.int .u64 e.off) ∧ w'.cell? ⟨g, off + i * 4 + 2, none⟩ = some (.int .u32 e.ln) ∧ w'.cell? ⟨g, off + i * 4 + 3, none⟩ = some (.int .u32 e.rn)) ∧ (w'.cell? ⟨g, off + j * 4, none⟩ = some (.int .u64 f.id) ∧ w'.cell? ⟨g, off + j * 4 + 1, none⟩ = some (.int .u64 f.off) ∧ w'.cell? ⟨g, off + j * 4 + 2, none⟩ = some (.int .u32 f.ln) ∧ w'.cell? ⟨g, off + j * 4 + 3, none⟩ = some (.int .u32 f.rn)) ∧ Below w2.heap.size w2 w') (by kernel_rfl) HS0 (fun hH0 => ?_)
          refine takeH (i := 0) (d := 36) (v := ?_) rfl rfl (by kernel_rfl) (by kernel_rfl) (by kernel_rfl) (fun _ _ _ h => h) (Or.inl ⟨by rfl, ?y0⟩) hH0 ?_
          case y0 => intro w hSw; go_simp; try with_reducible rfl
          try simp only [Act.put, List.setIfInBounds_toArray, List.set_cons_zero, List.set_cons_succ]
          refine takeH (i := 1) (d := 37) (v := ?_) rfl rfl (by kernel_rfl) (by kernel_rfl) (by kernel_rfl) (fun _ _ _ h => h) (Or.inl ⟨by rfl, ?y1⟩) hH0 ?_
          case y1 => intro w hSw; go_simp; try with_reducible rfl
          try simp only [Act.put, List.setIfInBounds_toArray, List.set_cons_zero, List.set_cons_succ]
          refine takeH (i := 2) (d := 38) (v := ?_) rfl rfl (by kernel_rfl) (by kernel_rfl) (by kernel_rfl) (fun _ _ _ h => h) (Or.inl ⟨by rfl, ?y2⟩) hH0 ?_
          case y2 => intro w hSw; go_simp; try with_reducible rfl
          try simp only [Act.put, List.setIfInBounds_toArray, List.set_cons_zero, List.set_cons_succ]
          refine takeH (i := 3) (d := 39) (v := ?_) rfl rfl (by kernel_rfl) (by kernel_rfl) (by kernel_rfl) (fun _ _ _ h => h) (Or.inl ⟨by rfl, ?y3⟩) hH0 ?_
          case y3 => intro w hSw; go_simp; try with_reducible rfl
          try simp only [Act.put, List.setIfInBounds_toArray, List.set_cons_zero, List.set_cons_succ]
          refine takeH (i := 5) (d := 41) (v := ?_) rfl rfl (by kernel_rfl) (by kernel_rfl) (by kernel_rfl) (fun _ _ _ h => h) (Or.inl ⟨by rfl, ?y5⟩) hH0 ?_
          case y5 => intro w hSw; go_simp; try with_reducible rfl
          try simp only [Act.put, List.setIfInBounds_toArray, List.set_cons_zero, List.set_cons_succ]
          refine takeH (i := 6) (d := 42) (v := ?_) rfl rfl (by kernel_rfl) (by kernel_rfl) (by kernel_rfl) (fun _ _ _ h => h) (Or.inl ⟨by rfl, ?y6⟩) hH0 ?_
          case y6 => intro w hSw; go_simp; try with_reducible rfl
          try simp only [Act.put, List.setIfInBounds_toArray, List.set_cons_zero, List.set_cons_succ]
          refine takeH (i := 7) (d := 43) (v := ?_) rfl rfl (by kernel_rfl) (by kernel_rfl) (by kernel_rfl) (fun _ _ _ h => h) (Or.inl ⟨by rfl, ?y7⟩) hH0 ?_
          case y7 => intro w hSw; go_simp; try with_reducible rfl
          try simp only [Act.put, List.setIfInBounds_toArray, List.set_cons_zero, List.set_cons_succ]
          refine takeH (i := 8) (d := 44) (v := ?_) rfl rfl (by kernel_rfl) (by kernel_rfl) (by kernel_rfl) (fun _ _ _ h => h) (Or.inl ⟨by rfl, ?y8⟩) hH0 ?_
          case y8 => intro w hSw; go_simp; try with_reducible rfl
          try simp only [Act.put, List.setIfInBounds_toArray, List.set_cons_zero, List.set_cons_succ]
          refine takeH (i := 9) (d := 45) (v := ?_) rfl rfl (by kernel_rfl) (by kernel_rfl) (by kernel_rfl) (fun _ _ _ h => h) (Or.inl ⟨by rfl, ?y9⟩) hH0 ?_
          case y9 => intro w hSw; go_simp; try with_reducible rfl
          try simp only [Act.put, List.setIfInBounds_toArray, List.set_cons_zero, List.set_cons_succ]
          refine wpAnyH_ready (rs := [4]) (by kernel_rfl) (by simp) ?_
          refine AllReadyH.cons rfl (fun K hK => ?_) AllReadyH.nil
          go_simp
          refine (PL.out _).mono ?_
          rintro e w' ⟨rfl, hb⟩
          go_wp2_with fail
          refine hK.out _ _ (keep2E hb hH0) (fun hH1 => ?_)
          clear hK K hb hH0
          try simp only [Act.put, List.setIfInBounds_toArray, List.set_cons_zero, List.set_cons_succ]
          refine takeH (i := 10) (d := 46) (v := ?_) rfl rfl (by kernel_rfl) (by kernel_rfl) (by kernel_rfl) (fun _ _ _ h => h) (Or.inl ⟨by rfl, ?y10⟩) hH1 ?_
          case y10 => intro w hSw; go_simp; try with_reducible rfl
          try simp only [Act.put, List.setIfInBounds_toArray, List.set_cons_zero, List.set_cons_succ]
          refine takeH (i := 11) (d := 47) (v := ?_) rfl rfl (by kernel_rfl) (by kernel_rfl) (by kernel_rfl) (fun _ _ _ h => h) (Or.inl ⟨by rfl, ?y11⟩) hH1 ?_
          case y11 => intro w hSw; go_simp; try with_reducible rfl
          try simp only [Act.put, List.setIfInBounds_toArray, List.set_cons_zero, List.set_cons_succ]
          refine takeH (i := 12) (d := 48) (v := ?_) rfl rfl (by kernel_rfl) (by kernel_rfl) (by kernel_rfl) (fun _ _ _ h => h) (Or.inl ⟨by rfl, ?y12⟩) hH1 ?_
          case y12 => intro w hSw; go_simp; try with_reducible rfl
          try simp only [Act.put, List.setIfInBounds_toArray, List.set_cons_zero, List.set_cons_succ]
          refine takeH (i := 13) (d := 49) (v := ?_) rfl rfl (by kernel_rfl) (by kernel_rfl) (by kernel_rfl) (fun _ _ _ h => h) (Or.inl ⟨by rfl, ?y13⟩) hH1 ?_
          case y13 => intro w hSw; go_simp; try with_reducible rfl
          try simp only [Act.put, List.setIfInBounds_toArray, List.set_cons_zero, List.set_cons_succ]
          refine takeH (i := 14) (d := 50) (v := ?_) rfl rfl (by kernel_rfl) (by kernel_rfl) (by kernel_rfl) (fun _ _ _ h => h) (Or.inl ⟨by rfl, ?y14⟩) hH1 ?_
          case y14 => intro w hSw; go_simp; try with_reducible rfl
          try simp only [Act.put, List.setIfInBounds_toArray, List.set_cons_zero, List.set_cons_succ]
          refine takeH (i := 15) (d := 51) (v := ?_) rfl rfl (by kernel_rfl) (by kernel_rfl) (by kernel_rfl) (fun _ _ _ h => h) (Or.inl ⟨by rfl, ?y15⟩) hH1 ?_
          case y15 => intro w hSw; go_simp; try with_reducible rfl
          try simp only [Act.put, List.setIfInBounds_toArray, List.set_cons_zero, List.set_cons_succ]
          refine takeH (i := 16) (d := 52) (v := ?_) rfl rfl (by kernel_rfl) (by kernel_rfl) (by kernel_rfl) (fun _ _ _ h => h) (Or.inl ⟨by rfl, ?y16⟩) hH1 ?_
          case y16 => intro w hSw; go_simp; try with_reducible rfl
          try simp only [Act.put, List.setIfInBounds_toArray, List.set_cons_zero, List.set_cons_succ]
          refine takeH (i := 17) (d := 53) (v := ?_) rfl rfl (by kernel_rfl) (by kernel_rfl) (by kernel_rfl) (fun _ _ _ h => h) (Or.inl ⟨by rfl, ?y17⟩) hH1 ?_
          case y17 => intro w hSw; go_simp; try with_reducible rfl
          try simp only [Act.put, List.setIfInBounds_toArray, List.set_cons_zero, List.set_cons_succ]
          refine takeH (i := 18) (d := 54) (v := ?_) rfl rfl (by kernel_rfl) (by kernel_rfl) (by kernel_rfl) (fun _ _ _ h => h) (Or.inl ⟨by rfl, ?y18⟩) hH1 ?_
          case y18 => intro w hSw; go_simp; try with_reducible rfl
          try simp only [Act.put, List.setIfInBounds_toArray, List.set_cons_zero, List.set_cons_succ]
          refine takeH (i := 19) (d := 55) (v := ?_) rfl rfl (by kernel_rfl) (by kernel_rfl) (by kernel_rfl) (fun _ _ _ h => h) (Or.inl ⟨by rfl, ?y19⟩) hH1 ?_
          case y19 => intro w hSw; go_simp; try with_reducible rfl
          try simp only [Act.put, List.setIfInBounds_toArray, List.set_cons_zero, List.set_cons_succ]
          refine takeH (i := 20) (d := 56) (v := ?_) rfl rfl (by kernel_rfl) (by kernel_rfl) (by kernel_rfl) (fun _ _ _ h => h) (Or.inl ⟨by rfl, ?y20⟩) hH1 ?_
          case y20 => intro w hSw; go_simp; try with_reducible rfl
          try simp only [Act.put, List.setIfInBounds_toArray, List.set_cons_zero, List.set_cons_succ]
          refine takeH (i := 21) (d := 57) (v := ?_) rfl rfl (by kernel_rfl) (by kernel_rfl) (by kernel_rfl) (fun _ _ _ h => h) (Or.inl ⟨by rfl, ?y21⟩) hH1 ?_
          case y21 => intro w hSw; go_simp; try with_reducible rfl
          try simp only [Act.put, List.setIfInBounds_toArray, List.set_cons_zero, List.set_cons_succ]
          refine takeH (i := 22) (d := 58) (v := ?_) rfl rfl (by kernel_rfl) (by kernel_rfl) (by kernel_rfl) (fun _ _ _ h => h) (Or.inl ⟨by rfl, ?y22⟩) hH1 ?_
          case y22 => intro w hSw; go_simp; try with_reducible rfl
          try simp only [Act.put, List.setIfInBounds_toArray, List.set_cons_zero, List.set_cons_succ]
          refine takeH (i := 23) (d := 59) (v := ?_) rfl rfl (by kernel_rfl) (by kernel_rfl) (by kernel_rfl) (fun _ _ _ h => h) (Or.inl ⟨by rfl, ?y23⟩) hH1 ?_
          case y23 => intro w hSw; go_simp; try with_reducible rfl
          try simp only [Act.put, List.setIfInBounds_toArray, List.set_cons_zero, List.set_cons_succ]
          refine takeH (i := 24) (d := 60) (v := ?_) rfl rfl (by kernel_rfl) (by kernel_rfl) (by kernel_rfl) (fun _ _ _ h => h) (Or.inl ⟨by rfl, ?y24⟩) hH1 ?_
          case y24 => intro w hSw; go_simp; try with_reducible rfl
          try simp only [Act.put, List.setIfInBounds_toArray, List.set_cons_zero, List.set_cons_succ]
          refine wpAnyH_ready (rs := [25]) (by kernel_rfl) (by simp) ?_
          refine AllReadyH.cons rfl (fun K hK => ?_) AllReadyH.nil
          go_simp
          refine (PLF.out _).mono ?_
          rintro e w' ⟨rfl, hb⟩
          go_wp2_with fail
          refine hK.out _ _ (keep2E hb hH1) (fun hH2 => ?_)
          clear hK K hb hH1
          try simp only [Act.put, List.setIfInBounds_toArray, List.set_cons_zero, List.set_cons_succ]
          refine takeH (i := 26) (d := 62) (v := ?_) rfl rfl (by kernel_rfl) (by kernel_rfl) (by kernel_rfl) (fun _ _ _ h => h) (Or.inl ⟨by rfl, ?y26⟩) hH2 ?_
          case y26 => intro w hSw; go_simp; try with_reducible rfl
          try simp only [Act.put, List.setIfInBounds_toArray, List.set_cons_zero, List.set_cons_succ]
          refine takeH (i := 27) (d := 63) (v := ?_) rfl rfl (by kernel_rfl) (by kernel_rfl) (by kernel_rfl) (fun _ _ _ h => h) (Or.inl ⟨by rfl, ?y27⟩) hH2 ?_
          case y27 => intro w hSw; go_simp; try with_reducible rfl
          try simp only [Act.put, List.setIfInBounds_toArray, List.set_cons_zero, List.set_cons_succ]
          refine takeH (i := 28) (d := 64) (v := ?_) rfl rfl (by kernel_rfl) (by kernel_rfl) (by kernel_rfl) (fun _ _ _ h => h) (Or.inl ⟨by rfl, ?y28⟩) hH2 ?_
          case y28 => intro w hSw; go_simp; try with_reducible rfl
          try simp only [Act.put, List.setIfInBounds_toArray, List.set_cons_zero, List.set_cons_succ]
          refine wpAnyH_done (by kernel_rfl) ?_ _
          go_wp2_with fail
          go_roundw
          case rel => exact ⟨i + 1, c, by omega, by go_num, rfl, Lib.hid (by simpa using HC1.out), by omega, Lib.hid hH2.2.2⟩
          case measure => simp [intOf]; omega
        · go_upto_region 10 with fail
          refine wp_region_held_drew (S := fun w' => (w'.cell? ⟨g, off + i * 4, none⟩ = some (.int .u64 e.id) ∧ w'.cell? ⟨g, off + i * 4 + 1, none⟩ = some (.int .u64 e.off) ∧ w'.cell? ⟨g, off + i * 4 + 2, none⟩ = some (.int .u32 e.ln) ∧ w'.cell? ⟨g, off + i * 4 + 3, none⟩ = some (.int .u32 e.rn)) ∧ (w'.cell? ⟨g, off + j * 4, none⟩ = some (.int .u64 f.id) ∧ w'.cell? ⟨g, off + j * 4 + 1, none⟩ = some (.int .u64 f.off) ∧ w'.cell? ⟨g, off + j * 4 + 2, none⟩ = some (.int .u32 f.ln) ∧ w'.cell? ⟨g, off + j * 4 + 3, none⟩ = some (.int .u32 f.rn)) ∧ Below w2.heap.size w2 w') (by kernel_rfl) HS0 (fun hH0 => ?_)
          refine takeH (i := 0) (d := 36) (v := ?_) rfl rfl (by kernel_rfl) (by kernel_rfl) (by kernel_rfl) (fun _ _ _ h => h) (Or.inl ⟨by rfl, ?y0⟩) hH0 ?_
          case y0 => intro w hSw; go_simp; try with_reducible rfl
          try simp only [Act.put, List.setIfInBounds_toArray, List.set_cons_zero, List.set_cons_succ]
          refine takeH (i := 1) (d := 37) (v := ?_) rfl rfl (by kernel_rfl) (by kernel_rfl) (by kernel_rfl) (fun _ _ _ h => h) (Or.inl ⟨by rfl, ?y1⟩) hH0 ?_
          case y1 => intro w hSw; go_simp; try with_reducible rfl
          try simp only [Act.put, List.setIfInBounds_toArray, List.set_cons_zero, List.set_cons_succ]
          refine takeH (i := 2) (d := 38) (v := ?_) rfl rfl (by kernel_rfl) (by kernel_rfl) (by kernel_rfl) (fun _ _ _ h => h) (Or.inl ⟨by rfl, ?y2⟩) hH0 ?_
          case y2 => intro w hSw; go_simp; try with_reducible rfl
          try simp only [Act.put, List.setIfInBounds_toArray, List.set_cons_zero, List.set_cons_succ]
          refine takeH (i := 3) (d := 39) (v := ?_) rfl rfl (by kernel_rfl) (by kernel_rfl) (by kernel_rfl) (fun _ _ _ h => h) (Or.inl ⟨by rfl, ?y3⟩) hH0 ?_
          case y3 => intro w hSw; go_simp; try with_reducible rfl
          try simp only [Act.put, List.setIfInBounds_toArray, List.set_cons_zero, List.set_cons_succ]
          refine takeH (i := 5) (d := 41) (v := ?_) rfl rfl (by kernel_rfl) (by kernel_rfl) (by kernel_rfl) (fun _ _ _ h => h) (Or.inl ⟨by rfl, ?y5⟩) hH0 ?_
          case y5 => intro w hSw; go_simp; try with_reducible rfl
          try simp only [Act.put, List.setIfInBounds_toArray, List.set_cons_zero, List.set_cons_succ]
          refine takeH (i := 6) (d := 42) (v := ?_) rfl rfl (by kernel_rfl) (by kernel_rfl) (by kernel_rfl) (fun _ _ _ h => h) (Or.inl ⟨by rfl, ?y6⟩) hH0 ?_
          case y6 => intro w hSw; go_simp; try with_reducible rfl
          try simp only [Act.put, List.setIfInBounds_toArray, List.set_cons_zero, List.set_cons_succ]
          refine takeH (i := 7) (d := 43) (v := ?_) rfl rfl (by kernel_rfl) (by kernel_rfl) (by kernel_rfl) (fun _ _ _ h => h) (Or.inl ⟨by rfl, ?y7⟩) hH0 ?_
          case y7 => intro w hSw; go_simp; try with_reducible rfl
          try simp only [Act.put, List.setIfInBounds_toArray, List.set_cons_zero, List.set_cons_succ]
          refine takeH (i := 8) (d := 44) (v := ?_) rfl rfl (by kernel_rfl) (by kernel_rfl) (by kernel_rfl) (fun _ _ _ h => h) (Or.inl ⟨by rfl, ?y8⟩) hH0 ?_
          case y8 => intro w hSw; go_simp; try with_reducible rfl
          try simp only [Act.put, List.setIfInBounds_toArray, List.set_cons_zero, List.set_cons_succ]
          refine takeH (i := 9) (d := 45) (v := ?_) rfl rfl (by kernel_rfl) (by kernel_rfl) (by kernel_rfl) (fun _ _ _ h => h) (Or.inl ⟨by rfl, ?y9⟩) hH0 ?_
          case y9 => intro w hSw; go_simp; try with_reducible rfl
          try simp only [Act.put, List.setIfInBounds_toArray, List.set_cons_zero, List.set_cons_succ]
          refine wpAnyH_ready (rs := [4]) (by kernel_rfl) (by simp) ?_
          refine AllReadyH.cons rfl (fun K hK => ?_) AllReadyH.nil
          go_simp
          refine (PL.out _).mono ?_
          rintro e w' ⟨rfl, hb⟩
          go_wp2_with fail
          refine hK.out _ _ (keep2E hb hH0) (fun hH1 => ?_)
          clear hK K hb hH0
          try simp only [Act.put, List.setIfInBounds_toArray, List.set_cons_zero, List.set_cons_succ]
          refine takeH (i := 10) (d := 46) (v := ?_) rfl rfl (by kernel_rfl) (by kernel_rfl) (by kernel_rfl) (fun _ _ _ h => h) (Or.inl ⟨by rfl, ?y10⟩) hH1 ?_
          case y10 => intro w hSw; go_simp; try with_reducible rfl
          try simp only [Act.put, List.setIfInBounds_toArray, List.set_cons_zero, List.set_cons_succ]
          refine takeH (i := 11) (d := 47) (v := ?_) rfl rfl (by kernel_rfl) (by kernel_rfl) (by kernel_rfl) (fun _ _ _ h => h) (Or.inl ⟨by rfl, ?y11⟩) hH1 ?_
          case y11 => intro w hSw; go_simp; try with_reducible rfl
          try simp only [Act.put, List.setIfInBounds_toArray, List.set_cons_zero, List.set_cons_succ]
          refine takeH (i := 12) (d := 48) (v := ?_) rfl rfl (by kernel_rfl) (by kernel_rfl) (by kernel_rfl) (fun _ _ _ h => h) (Or.inl ⟨by rfl, ?y12⟩) hH1 ?_
          case y12 => intro w hSw; go_simp; try with_reducible rfl
          try simp only [Act.put, List.setIfInBounds_toArray, List.set_cons_zero, List.set_cons_succ]
          refine takeH (i := 13) (d := 49) (v := ?_) rfl rfl (by kernel_rfl) (by kernel_rfl) (by kernel_rfl) (fun _ _ _ h => h) (Or.inl ⟨by rfl, ?y13⟩) hH1 ?_
          case y13 => intro w hSw; go_simp; try with_reducible rfl
          try simp only [Act.put, List.setIfInBounds_toArray, List.set_cons_zero, List.set_cons_succ]
          refine takeH (i := 14) (d := 50) (v := ?_) rfl rfl (by kernel_rfl) (by kernel_rfl) (by kernel_rfl) (fun _ _ _ h => h) (Or.inl ⟨by rfl, ?y14⟩) hH1 ?_
          case y14 => intro w hSw; go_simp; try with_reducible rfl
          try simp only [Act.put, List.setIfInBounds_toArray, List.set_cons_zero, List.set_cons_succ]
          refine takeH (i := 15) (d := 51) (v := ?_) rfl rfl (by kernel_rfl) (by kernel_rfl) (by kernel_rfl) (fun _ _ _ h => h) (Or.inl ⟨by rfl, ?y15⟩) hH1 ?_
          case y15 => intro w hSw; go_simp; try with_reducible rfl
          try simp only [Act.put, List.setIfInBounds_toArray, List.set_cons_zero, List.set_cons_succ]
          refine takeH (i := 16) (d := 52) (v := ?_) rfl rfl (by kernel_rfl) (by kernel_rfl) (by kernel_rfl) (fun _ _ _ h => h) (Or.inl ⟨by rfl, ?y16⟩) hH1 ?_
          case y16 => intro w hSw; go_simp; try with_reducible rfl
          try simp only [Act.put, List.setIfInBounds_toArray, List.set_cons_zero, List.set_cons_succ]
          refine takeH (i := 17) (d := 53) (v := ?_) rfl rfl (by kernel_rfl) (by kernel_rfl) (by kernel_rfl) (fun _ _ _ h => h) (Or.inl ⟨by rfl, ?y17⟩) hH1 ?_
          case y17 => intro w hSw; go_simp; try with_reducible rfl
          try simp only [Act.put, List.setIfInBounds_toArray, List.set_cons_zero, List.set_cons_succ]
          refine takeH (i := 18) (d := 54) (v := ?_) rfl rfl (by kernel_rfl) (by kernel_rfl) (by kernel_rfl) (fun _ _ _ h => h) (Or.inl ⟨by rfl, ?y18⟩) hH1 ?_
          case y18 => intro w hSw; go_simp; try with_reducible rfl
          try simp only [Act.put, List.setIfInBounds_toArray, List.set_cons_zero, List.set_cons_succ]
          refine takeH (i := 19) (d := 55) (v := ?_) rfl rfl (by kernel_rfl) (by kernel_rfl) (by kernel_rfl) (fun _ _ _ h => h) (Or.inl ⟨by rfl, ?y19⟩) hH1 ?_
          case y19 => intro w hSw; go_simp; try with_reducible rfl
          try simp only [Act.put, List.setIfInBounds_toArray, List.set_cons_zero, List.set_cons_succ]
          refine takeH (i := 20) (d := 56) (v := ?_) rfl rfl (by kernel_rfl) (by kernel_rfl) (by kernel_rfl) (fun _ _ _ h => h) (Or.inl ⟨by rfl, ?y20⟩) hH1 ?_
          case y20 => intro w hSw; go_simp; try with_reducible rfl
          try simp only [Act.put, List.setIfInBounds_toArray, List.set_cons_zero, List.set_cons_succ]
          refine takeH (i := 21) (d := 57) (v := ?_) rfl rfl (by kernel_rfl) (by kernel_rfl) (by kernel_rfl) (fun _ _ _ h => h) (Or.inl ⟨by rfl, ?y21⟩) hH1 ?_
          case y21 => intro w hSw; go_simp; try with_reducible rfl
          try simp only [Act.put, List.setIfInBounds_toArray, List.set_cons_zero, List.set_cons_succ]
          refine takeH (i := 22) (d := 58) (v := ?_) rfl rfl (by kernel_rfl) (by kernel_rfl) (by kernel_rfl) (fun _ _ _ h => h) (Or.inl ⟨by rfl, ?y22⟩) hH1 ?_
          case y22 => intro w hSw; go_simp; try with_reducible rfl
          try simp only [Act.put, List.setIfInBounds_toArray, List.set_cons_zero, List.set_cons_succ]
          refine takeH (i := 23) (d := 59) (v := ?_) rfl rfl (by kernel_rfl) (by kernel_rfl) (by kernel_rfl) (fun _ _ _ h => h) (Or.inl ⟨by rfl, ?y23⟩) hH1 ?_
          case y23 => intro w hSw; go_simp; try with_reducible rfl
          try simp only [Act.put, List.setIfInBounds_toArray, List.set_cons_zero, List.set_cons_succ]
          refine takeH (i := 24) (d := 60) (v := ?_) rfl rfl (by kernel_rfl) (by kernel_rfl) (by kernel_rfl) (fun _ _ _ h => h) (Or.inl ⟨by rfl, ?y24⟩) hH1 ?_
          case y24 => intro w hSw; go_simp; try with_reducible rfl
          try simp only [Act.put, List.setIfInBounds_toArray, List.set_cons_zero, List.set_cons_succ]
          refine wpAnyH_ready (rs := [25]) (by kernel_rfl) (by simp) ?_
          refine AllReadyH.cons rfl (fun K hK => ?_) AllReadyH.nil
          go_simp
          refine (PLF.out _).mono ?_
          rintro e w' ⟨rfl, hb⟩
          go_wp2_with fail
          refine hK.out _ _ (keep2E hb hH1) (fun hH2 => ?_)
          clear hK K hb hH1
          try simp only [Act.put, List.setIfInBounds_toArray, List.set_cons_zero, List.set_cons_succ]
          refine takeH (i := 26) (d := 62) (v := ?_) rfl rfl (by kernel_rfl) (by kernel_rfl) (by kernel_rfl) (fun _ _ _ h => h) (Or.inl ⟨by rfl, ?y26⟩) hH2 ?_
          case y26 => intro w hSw; go_simp; try with_reducible rfl
          try simp only [Act.put, List.setIfInBounds_toArray, List.set_cons_zero, List.set_cons_succ]
          refine takeH (i := 27) (d := 63) (v := ?_) rfl rfl (by kernel_rfl) (by kernel_rfl) (by kernel_rfl) (fun _ _ _ h => h) (Or.inl ⟨by rfl, ?y27⟩) hH2 ?_
          case y27 => intro w hSw; go_simp; try with_reducible rfl
          try simp only [Act.put, List.setIfInBounds_toArray, List.set_cons_zero, List.set_cons_succ]
          refine takeH (i := 28) (d := 64) (v := ?_) rfl rfl (by kernel_rfl) (by kernel_rfl) (by kernel_rfl) (fun _ _ _ h => h) (Or.inl ⟨by rfl, ?y28⟩) hH2 ?_
          case y28 => intro w hSw; go_simp; try with_reducible rfl
          try simp only [Act.put, List.setIfInBounds_toArray, List.set_cons_zero, List.set_cons_succ]
          refine wpAnyH_done (by kernel_rfl) ?_ _
          go_wp2_with fail
          go_roundw
          case rel => exact ⟨i + 1, c + 1, by omega, by go_num, by go_num, Lib.hid (by simpa using HC1.out), by omega, Lib.hid hH2.2.2⟩
          case measure => simp [intOf]; omega
    · obtain rfl : i = l.length := by omega
      have hc1 : c ≤ 1 := by
        have h1 := HCo.out
        rw [List.take_length] at h1
        have := HTell.out
        omega
      have dc : decide ((c : Int) ≤ 1) = true := by simp; omega
      have dcn : decide (c ≤ 1) = true := by simp; omega
      clear HCo HTell
      rcases HForm.out with h | ⟨g, cp, h⟩
      · obtain ⟨rfl, hl0, rfl⟩ : a1' = none ∧ l.length = 0 ∧ cap1 = 0 := by simpa using h
        have hln := List.eq_nil_of_length_eq_zero hl0
        have hx2 := HX2.out.below HBW.out
        rw [hl0] at hx2
        have hT : EnsAt wr (.slice none 0 0) (l.take 0) := by rw [hln]; exact ens_nil _
        have hD : EnsAt wr (.slice none 0 0) (l.drop 0) := by rw [hln]; exact ens_nil _
        have e1 : a.tmod 1 = 0 := by rw [Int.tmod_eq_emod_of_nonneg a0]; omega
        have e2 : a % 1 = 0 := by omega
        rw [hl0]
        clear h hl0 hln hx2
        go_wp2_with fail
        refine (PT.out _ 0 _ hT).mono ?_
        rintro x w6 ⟨rfl, hb⟩
        rw [HTk.out]
        have hb6 := HBW.out.trans (hb.mono HBW.out.size)
        have hD6 := hD.below hb
        have HB6 := Lib.hid hb6
        have HD6 := Lib.hid hD6
        clear hb hb6 hD6 hT hD
        go_wp2_with fail
        refine (PD.out _ 0 _ HD6.out).mono ?_
        rintro x w7 ⟨rfl, hb⟩
        rw [HDr.out]
        have HB7 := Lib.hid (HB6.out.trans (hb.mono HB6.out.size))
        clear hb
        go_wp2_with fail
        refine (HA.out _).mono ?_
        rintro x w8 ⟨rfl, hb⟩
        have u8 := HB2.out.trans ((HB7.out.trans (hb.mono HB7.out.size)).mono HB2.out.size)
        clear hb
        go_wp2_with fail
        go_ret
        exact ⟨rfl, u8⟩
      · obtain ⟨rfl, rfl⟩ : a1' = some ⟨g, 0, none⟩ ∧ cap1 = cp := by simpa using h
        obtain ⟨k, hk, hmn⟩ : ∃ k : Nat, k ≤ l.length ∧ a % ((l.length : Int) + 1) = (k : Int) := by
          have h1 := Int.emod_nonneg a (show ((l.length : Int) + 1) ≠ 0 by omega)
          have h2 := Int.emod_lt_of_pos a (show (0 : Int) < (l.length : Int) + 1 by omega)
          exact ⟨(a % ((l.length : Int) + 1)).toNat, by omega, by omega⟩
        have hmt : a.tmod ((l.length : Int) + 1) = (k : Int) := by rw [Int.tmod_eq_emod_of_nonneg a0]; exact hmn
        have hx2 := HX2.out.below HBW.out
        have hT := ens_take hx2 k hk
        have hD := ens_drop hx2 k hk
        rw [Nat.zero_add] at hD
        have hkc : k ≤ cap1 := by omega
        have hk1 : (0 : Int) ≤ (k : Int) := by omega
        have hk2 : (k : Int) ≤ (l.length : Int) := by omega
        have hk3 : (k : Int) ≤ (cap1 : Int) := by omega
        clear h hx2
        go_wp2_with fail
        refine (PT.out _ k _ hT).mono ?_
        rintro x w6 ⟨rfl, hb⟩
        rw [HTk.out]
        have hb6 := HBW.out.trans (hb.mono HBW.out.size)
        have hD6 := hD.below hb
        have HB6 := Lib.hid hb6
        have HD6 := Lib.hid hD6
        have HCp := Lib.hid hcp
        clear hb hb6 hD6 hT hD
        go_wp2_with fail
        · have hE : EnsAt w6 (.slice (some ⟨g, 0, none⟩) (l.length - k) 0) (l.drop k) := ens_empty _ _ _ _ (by have := HCp.out; omega)
          refine (PD.out _ k _ hE).mono ?_
          rintro x w7 ⟨rfl, hb⟩
          rw [HDr.out]
          have HB7 := Lib.hid (HB6.out.trans (hb.mono HB6.out.size))
          clear hb
          go_wp2_with fail
          refine (HA.out _).mono ?_
          rintro x w8 ⟨rfl, hb⟩
          have u8 := HB2.out.trans ((HB7.out.trans (hb.mono HB7.out.size)).mono HB2.out.size)
          clear hb
          go_wp2_with fail
          go_ret
          exact ⟨rfl, u8⟩
        · refine (PD.out _ k _ HD6.out).mono ?_
          rintro x w7 ⟨rfl, hb⟩
          rw [HDr.out]
          have HB7 := Lib.hid (HB6.out.trans (hb.mono HB6.out.size))
          clear hb
          go_wp2_with fail
          refine (HA.out _).mono ?_
          rintro x w8 ⟨rfl, hb⟩
          have u8 := HB2.out.trans ((HB7.out.trans (hb.mono HB7.out.size)).mono HB2.out.size)
          clear hb
          go_wp2_with fail
          go_ret
          exact ⟨rfl, u8⟩
theorem once_law (v1 : Value) (l : List En) (q a : Int) (w : World) (s1 : EnsAt w v1 l) (m1 : MaysN l) (z1 : l.length * 24 ≤ 140737488351232) (a0 : 0 ≤ a) (a1 : a ≤ 255) : Calls Try.prog 5 #[v1, .int .u64 q, .int .u8 a] w fun x w' => x = .returned (.bool true) ∧ Below w.heap.size w w' := once_walk v1 l q a w s1 m1 z1 a0 a1
end Go.Proofs.Ytdgohnpkpijmbaa
