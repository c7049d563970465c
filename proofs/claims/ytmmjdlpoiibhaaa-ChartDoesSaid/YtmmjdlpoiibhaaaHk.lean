/- Of. -/
import Derived.Test.YtmmjdlpoiibhaaaHj
namespace Go.Proofs.Ytmmjdlpoiibhaaa
open Go.RowKit
set_option maxRecDepth 20000
set_option linter.unusedVariables false
set_option linter.unusedSimpArgs false
theorem own_one {w : World} {B g : Nat} {E : TypeId} {v x : Value} {l : List It} (h : OwnIt w B E v l) (ho : One w g x) : v.ownBlock ≠ some g := by
  intro e
  obtain ⟨T, hh⟩ := ho
  rcases h.2 with ⟨rfl, _⟩ | ⟨g', cap, cur, rfl, _, h2, _, _, hcs, _⟩
  · cases e
  · cases e
    rw [hh] at h2
    cases h2
    simp at hcs
    omega
theorem One.grown {w w' : World} {B g : Nat} {E : TypeId} {v x : Value} {l : List It} (ho : One w g x) (h : OwnIt w B E v l) (hg : w.grownBy w' v.ownBlock) : One w' g x := by
  have hl := ho.lt
  have hn := own_one h ho
  obtain ⟨T, hh⟩ := ho
  exact ⟨T, (hg.block g hl (fun e => hn e.symm)).trans hh⟩
theorem OwnIt.set {w : World} {B g : Nat} {E : TypeId} {v x : Value} {l : List It} (h : OwnIt w B E v l) (ho : One w g x) (x' : Value) : OwnIt (w.setCell ⟨g, 0, none⟩ x') B E v l := by
  have hn := own_one h ho
  obtain ⟨h1, h2⟩ := h
  refine ⟨h1, ?_⟩
  rcases h2 with h2 | ⟨g', cap, cur, rfl, hg, hh, r⟩
  · exact .inl h2
  · refine .inr ⟨g', cap, cur, rfl, hg, ?_, r⟩
    exact (Below.heap_setCell _ _ _ _ (fun e => hn (by show some g' = some g; rw [e]))).trans hh
/-- What stands in a round of Of. -/
structure OfS (w W : World) (s : Value) (acc : List It) : Prop where
  res : One W w.heap.size (.slice none 0 0)
  cb : One W (w.heap.size + 1) s
  own : OwnIt W w.heap.size 52 s acc
  bel : Below w.heap.size w W
theorem OfS.below {w W W' : World} {s : Value} {acc : List It} (h : OfS w W s acc) (hb : Below W.heap.size W W') : OfS w W' s acc :=
  ⟨h.res.below hb, h.cb.below hb, h.own.below hb, h.bel.trans (hb.mono h.bel.size)⟩
theorem of_start (w : World) : OfS w ((w.alloc (.cells #[.slice none 0 0] 26)).alloc (.cells #[.slice none 0 0] 26)) (.slice none 0 0) [] := by
  have h1 := one_new w (.slice none 0 0) 26
  have h2 := one_new (w.alloc (.cells #[.slice none 0 0] 26)) (.slice none 0 0) 26
  simp only [World.size_alloc] at h2
  exact ⟨h1.alloc _, h2, ownIt_nil _ _ _, by go_grown⟩
theorem seen_step (id x : Nat) (t : ByteArray) (acc sn : List It) (h : ∀ id, (getI id acc).isSome = (getI id sn).isSome) : (getI id (putI x t acc)).isSome = (getI id (sn ++ [(x, t)])).isSome := by
  rw [Bool.eq_iff_iff, getI_some, getI_some]
  have h1 := h id
  rw [Bool.eq_iff_iff, getI_some, getI_some] at h1
  constructor
  · rintro ⟨u, hu, he⟩
    rcases (mem_put x t acc u).1 hu with rfl | ⟨hu, hn⟩
    · exact ⟨_, by simp, he⟩
    · obtain ⟨u2, hu2, he2⟩ := h1.1 ⟨u, hu, he⟩
      exact ⟨u2, by simp [hu2], he2⟩
  · rintro ⟨u, hu, he⟩
    by_cases hx : x = id
    · exact ⟨(x, t), (mem_put x t acc _).2 (.inl rfl), hx⟩
    · rcases List.mem_append.1 hu with hu | hu
      · obtain ⟨u2, hu2, he2⟩ := h1.2 ⟨u, hu, he⟩
        exact ⟨u2, (mem_put x t acc u2).2 (.inr ⟨hu2, by omega⟩), he2⟩
      · simp at hu
        subst hu
        exact absurd he hx
theorem put_small {l : List It} {id : Nat} {t : ByteArray} (h0 : putE l id t = 0) : t.size ≤ 65536 := by
  unfold putE at h0
  by_cases h1 : 6004799503160661 ≤ id
  · rw [if_pos h1] at h0; cases h0
  rw [if_neg h1] at h0
  by_cases h2 : t.size = 0
  · omega
  rw [if_neg h2] at h0
  by_cases h3 : 65536 < t.size
  · rw [if_pos h3] at h0; cases h0
  omega
theorem ins_form {l : List It} {i : Nat} {t : It} {B : Nat} {s : Value} {w w' : World} {e : Ending} (h : InsEnd l i t B s w e w') : ∃ a n c, e = .returned (.slice a n c) ∧ OwnIt w' B 52 (.slice a n c) (insI l i t) ∧ w.grownBy w' s.ownBlock := by
  obtain ⟨v, rfl, ho, hb⟩ := h
  obtain ⟨a, c, rfl⟩ := ho.slice
  exact ⟨_, _, _, rfl, ho, hb⟩
/-- The row with the item put in. -/
theorem of_ins (w W : World) (s : Value) (acc : List It) (i id : Nat) (t : ByteArray) (h : OfS w W s acc) (hi : i ≤ acc.length) (hl : acc.length ≤ 5000) :
    Calls Try.prog 37 #[s, .int .i64 i, .slice (some ⟨W.heap.size, 0, none⟩) 1 1] (W.alloc (.cells #[.int .u64 id, .string t] 52))
      fun e w' => ∃ a n c, e = .returned (.slice a n c) ∧ OwnIt w' w.heap.size 52 (.slice a n c) (insI acc i (id, t)) ∧ One w' w.heap.size (.slice none 0 0) ∧ One w' (w.heap.size + 1) s ∧ Below w.heap.size w w' := by
  have h1 := h.below (below_one W (.cells #[.int .u64 id, .string t] 52))
  refine (insert_any s acc (id, t) w.heap.size W.heap.size i _ 52 h1.own (heap_new _ _) (fun e => ?_) hi hl h1.bel.size).mono (fun e w' h2 => ?_)
  · have := (h.own.lt _ e).2
    omega
  · obtain ⟨a, n, c, rfl, ho, hg⟩ := ins_form h2
    exact ⟨a, n, c, rfl, ho, h1.res.grown h1.own hg, h1.cb.grown h1.own hg, h1.bel.grown hg h1.bel.size (fun k hk => (h1.own.lt k hk).1)⟩
set_option maxHeartbeats 4000000 in
theorem of_any (v : Value) (l : List It) (w : World) (hv : ItsAt w v l) (hl : l.length ≤ 10000) (hid : ∀ t ∈ l, t.1 < 18446744073709551616) (hs : ∀ t ∈ l, t.2.size ≤ maxLen) :
    Calls Try.prog 24 #[v] w fun e w' => ∃ s, e = .returned (.tuple #[.agg #[s], .int .i64 ((ofI l).2 : Nat)]) ∧ ChS w' s (ofI l).1 ∧ Below w.heap.size w w' := by
  obtain ⟨al, cap, rfl, hcap, hmx, hc⟩ := hv
  have HC := Lib.hid hc
  have HST := Lib.hid (of_start w)
  obtain ⟨R, hR⟩ : ∃ R, ofI l = R := ⟨_, rfl⟩
  rw [hR]
  have HRR := Lib.hid hR
  clear hc hR
  go_enter Try.func24, Try.ntmps24
  go_wp2_with fail
  go_loopw [12] (fun x wr => ∃ (k : Nat) (acc : List It) (s : Value), k ≤ l.length ∧ x = .int .i64 k ∧ OfS w wr s acc ∧ GoodC acc ∧ R = ofR (l.take k) acc (l.drop k) ∧ ∀ id, (getI id acc).isSome = (getI id (l.take k)).isSome) (fun x _ => l.length - (intOf x).toNat)
  case atStart => exact ⟨0, [], _, Nat.zero_le _, rfl, HST.out, goodC_nil, HRR.out.symm, fun id => rfl⟩
  case round =>
    obtain ⟨k, acc, s, hk, rfl, hO, hgood, hR, hseen⟩ := hrel
    have HO := Lib.hid hO
    have HGD := Lib.hid hgood
    have HSE := Lib.hid hseen
    have hfew := hgood.few
    have hle := loC_le
    have cc := hO.cb.cell
    have rr := hO.res.cell
    have rf := hO.res.frz
    have cA : ∀ O, (wr.alloc O).cell? ⟨w.heap.size + 1, 0, none⟩ = some s := fun O => (hO.cb.alloc O).cell
    clear HST HRR
    by_cases hlt : k < l.length
    · obtain ⟨⟨x, t⟩, htk⟩ : ∃ t, l[k]? = some t := ⟨_, List.getElem?_eq_getElem hlt⟩
      have hx := hid _ (List.mem_of_getElem? htk)
      have ht := hs _ (List.mem_of_getElem? htk)
      simp only at hx ht
      obtain ⟨g, off, rfl, hg, c0, c1⟩ := HC.out k _ htk
      have d0 := (hO.bel.cell (p := ⟨g, off + k * 2, none⟩) hg).trans c0
      have d1 := (hO.bel.cell (p := ⟨g, off + k * 2 + 1, none⟩) hg).trans c1
      rw [ofR_step l acc k _ htk, ← hseen x] at hR
      have hki : (k : Int) < (l.length : Int) := by omega
      have HPL := Lib.hid (fun X (hX : Below wr.heap.size wr X) => place_any s acc x X ⟨(hO.own.below hX).itsAt, hgood⟩)
      have HCK := Lib.hid (fun X (hX : Below wr.heap.size wr X) => check_any s acc x t X ⟨(hO.own.below hX).itsAt, hgood⟩ ht)
      obtain ⟨a7, n7, p7, rfl⟩ : ∃ a n c, s = .slice a n c := by obtain ⟨_, _, e⟩ := hO.own.slice; exact ⟨_, _, _, e⟩
      have hlo := loC_le x acc
      have HIT := Lib.hid (two_new wr (.int .u64 x) (.string t) 52)
      have HPN := Lib.hid (fun hn => put_no (id := x) (s := t) (l := acc) hn)
      have HTK := Lib.hid (itake_at l k _ htk)
      obtain ⟨b, hb⟩ : ∃ b, (getI x acc).isSome = b := ⟨_, rfl⟩
      rw [hb] at HPL HCK hR HPN
      have hbz := below_one wr (.cells #[.int .u64 x, .string t] 52)
      have HBZ := Lib.hid hbz
      clear c0 c1 hO hgood hseen hb hbz hle htk
      cases b with
      | true =>
        rw [if_pos rfl] at hR
        have HR := Lib.hid hR
        clear hR
        go_wp2_with fail
        refine (HPL.out _ HBZ.out).mono ?_
        rintro e w1 ⟨rfl, hb⟩
        have H1 := Lib.hid ((HO.out.below HBZ.out).below hb)
        have r0 := H1.out.res.cell
        have r1 := H1.out.res.frz
        clear hb cc rr rf d0 d1 cA
        go_wp2_with fail
        refine bodyPost_ret (results_o2 rfl _ _ w.heap.size _ _ _ rfl rfl (H1.out.res.set _).cell Try.underlying26 rfl chart_size) rfl ⟨_, by rw [HR.out]; rfl, ?_, H1.out.bel.setCell (p := ⟨w.heap.size, 0, none⟩) (Nat.le_refl _) _⟩
        rw [HR.out]
        exact chS_nil _
      | false =>
        rw [if_neg (by decide)] at hR
        obtain ⟨z, hz⟩ : ∃ z, putE acc x t = z := ⟨_, rfl⟩
        rw [hz] at hR HCK
        by_cases h0 : z = 0
        · subst h0
          rw [if_neg (by simp)] at hR
          have HR := Lib.hid hR
          have HTS := Lib.hid (put_small hz)
          have HKE := Lib.hid (fun W => kept_any x t W (Nat.le_trans HTS.out (by omega)))
          have HGP : Hid (GoodC (putI x t acc)) := by
            have h1 := good_put (id := x) (s := t) HGD.out
            unfold putL at h1
            rw [if_pos hz] at h1
            exact Lib.hid h1
          have HPE : Hid (insI acc (loC x acc) (x, t) = putI x t acc) := Lib.hid (HPN.out rfl).symm
          have HIN := Lib.hid (fun X (h : OfS w X (.slice a7 n7 p7) acc) => of_ins w X (.slice a7 n7 p7) acc (loC x acc) x t h hlo (by omega))
          rw [HPE.out] at HIN
          clear hR HPN HPE
          go_wp2_with fail
          refine (HPL.out _ HBZ.out).mono ?_
          rintro e w1 ⟨rfl, hb⟩
          have H1 := Lib.hid ((HO.out.below HBZ.out).below hb)
          have I1 := Lib.hid (HIT.out.below hb)
          have hb1 := Lib.hid (HBZ.out.trans (hb.mono HBZ.out.size))
          have c1 := H1.out.cb.cell
          obtain ⟨i0, i1, _, _⟩ := I1.out
          clear hb cc rr rf d0 d1 cA
          go_wp2_with fail
          refine (HCK.out _ hb1.out).mono ?_
          rintro e w2 ⟨rfl, hb⟩
          have H2 := Lib.hid (H1.out.below hb)
          have I2 := Lib.hid (I1.out.below hb)
          clear hb c1 i0 i1
          have c2 := H2.out.cb.cell
          obtain ⟨i0, i1, _, _⟩ := I2.out
          go_wp2_with fail
          go_region_law (first | (go_simp; go_at_call 32; refine (HKE.out _).mono ?_; rintro e w3 ⟨rfl, hb⟩; have hb3 : Below w2.heap.size w2 w3 := (by go_grown : Below w2.heap.size w2 _).trans (hb.mono (by simp)); have O3 := H2.out.below hb3; have k3 := O3.cb.cell; have k4 : ∀ O, (w3.alloc O).cell? ⟨w.heap.size + 1, 0, none⟩ = _ := fun O => (O3.cb.alloc O).cell) | (go_simp; go_at_call 37; refine (HIN.out _ O3).mono ?_; rintro e w5 ⟨a9, n9, p9, rfl, ho9, hr9, hc9, hb9⟩; have k5 := hc9.cell; have k6 := hc9.frz))
          all_goals
            have H5 := Lib.hid (OfS.mk (w := w) (hr9.set_other (by omega) (.slice a9 n9 p9)) (hc9.set (.slice a9 n9 p9)) (ho9.set hc9 (.slice a9 n9 p9)) (hb9.setCell (p := ⟨w.heap.size + 1, 0, none⟩) (Nat.le_succ _) (.slice a9 n9 p9)))
            go_wp2_with fail
            go_roundw
            case rel => exact ⟨k + 1, _, _, by omega, by go_num, H5.out, HGP.out, HR.out, fun id => by rw [HTK.out]; exact seen_step id x t acc _ HSE.out⟩
            case measure => simp [intOf]; omega
        · rw [if_pos h0] at hR
          have hzn : (((z : Nat) : Int) != 0) = true := by simpa using h0
          have HR := Lib.hid hR
          clear hR
          go_wp2_with fail
          refine (HPL.out _ HBZ.out).mono ?_
          rintro e w1 ⟨rfl, hb⟩
          have H1 := Lib.hid ((HO.out.below HBZ.out).below hb)
          have I1 := Lib.hid (HIT.out.below hb)
          have hb1 := Lib.hid (HBZ.out.trans (hb.mono HBZ.out.size))
          have c1 := H1.out.cb.cell
          obtain ⟨i0, i1, _, _⟩ := I1.out
          clear hb cc rr rf d0 d1 cA
          go_wp2_with fail
          refine (HCK.out _ hb1.out).mono ?_
          rintro e w2 ⟨rfl, hb⟩
          have H2 := Lib.hid (H1.out.below hb)
          have r0 := H2.out.res.cell
          have r1 := H2.out.res.frz
          clear hb c1 i0 i1
          go_wp2_with fail
          refine bodyPost_ret (results_o2 rfl _ _ w.heap.size _ _ _ rfl rfl (H2.out.res.set _).cell Try.underlying26 rfl chart_size) rfl ⟨_, by rw [HR.out]; rfl, ?_, H2.out.bel.setCell (p := ⟨w.heap.size, 0, none⟩) (Nat.le_refl _) _⟩
          rw [HR.out]
          exact chS_nil _
    · obtain rfl : k = l.length := by omega
      rw [List.drop_length, ofR] at hR
      have HR := Lib.hid hR
      obtain ⟨a7, n7, p7, rfl⟩ : ∃ a n c, s = .slice a n c := by obtain ⟨_, _, e⟩ := hO.own.slice; exact ⟨_, _, _, e⟩
      clear hR hO hgood hseen hle
      go_wp2_with fail
      refine bodyPost_ret (results_o2 rfl _ _ w.heap.size _ _ _ rfl rfl (HO.out.res.set _).cell Try.underlying26 rfl chart_size) rfl ⟨_, by rw [HR.out]; rfl, ?_, HO.out.bel.setCell (p := ⟨w.heap.size, 0, none⟩) (Nat.le_refl _) _⟩
      rw [HR.out]
      exact ⟨HO.out.own.itsAt.set HO.out.res _, HGD.out⟩
end Go.Proofs.Ytmmjdlpoiibhaaa
