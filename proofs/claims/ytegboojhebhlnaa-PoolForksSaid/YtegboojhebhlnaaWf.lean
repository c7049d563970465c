/- The walk of PoolForks. -/
import Derived.Test.YtegboojhebhlnaaKh
import Derived.Test.YtegboojhebhlnaaKw
import Derived.Deep.RegionHeld3
namespace Go.Proofs.Ytegboojhebhlnaa
open Go.RowKit
set_option linter.unusedVariables false
set_option linter.unusedSimpArgs false
theorem takeH {P : Program} {ops : Array Oper} {Q : Exit → Act → World → Prop} {md : Region.Mode} {S : World → Prop} {i d : Nat} {oi : Oper} {v : Value} {fuel : Nat} {listed : Array Bool} {a : Act} {w : World} (hi : ops[i]? = some oi) (hd : oi.dst = some d)
    (hs : Region.noSelect ops = true) (hf : Region.free md ops listed i = true) (hr : (Region.ready md ops listed).contains i = true)
    (hQ : ∀ c a w, Q (.panic c) (a.put (some d) v) w → Q (.panic c) a w) (hy : YieldsIf P ops S oi v a) (hS : S w)
    (h : wpAnyH P md ops Q S fuel (listed.setIfInBounds i true) (a.put (some d) v) w) : wpAnyH P md ops Q S (fuel + 1) listed a w :=
  wpAnyH_take hi hs hf hr (by rw [hd]; exact hQ) hy hS (by rw [hd]; exact h)
def tOwn : ByteArray := { data := #[111, 119, 110] }
theorem str_emp2 (s : ByteArray) (h : s.size = 0) : (s.toList == []) = true := by
  rw [ByteArray.toList_eq]
  have : s.data.toList = [] := List.eq_nil_of_length_eq_zero (by simpa using h)
  rw [this]; rfl
theorem str_full2 (s : ByteArray) (h : ¬ s.size = 0) : (s.toList == []) = false := by
  rw [ByteArray.toList_eq, beq_eq_false_iff_ne]
  intro e
  have := congrArg List.length e
  simp at this
  exact h (by rw [this]; rfl)
theorem over_len2 (l : List ByteArray) (M : Int) (h : overF l M = false) : (totF l : Int) ≤ M := by
  unfold overF at h
  rw [decide_eq_false_iff_not] at h
  omega
set_option maxRecDepth 20000 in
set_option maxHeartbeats 4000000 in
theorem poolforks_law (v : Value) (l : List ByteArray) (u : Value) (m : List ByteArray) (w : World) (hv : StrsAt w v l) (hml : ∀ t ∈ l, t.size ≤ maxLen) (hu : StrsAt w u m) (hmm : ∀ t ∈ m, t.size ≤ maxLen) :
    Calls Try.prog 6 #[v, u] w fun e w' => e = .returned (.bool true) ∧ Below w.heap.size w w' := by
  have HN := Lib.hid new_any
  have HK := Lib.hid awake_any
  have HL := Lib.hid (long_any v l 2000 w hv hml (by omega) (by omega))
  have HM := Lib.hid (long_any u m 2000 w hu hmm (by omega) (by omega))
  obtain ⟨al, cap, rfl, hcap, hmx, hc⟩ := hv
  obtain ⟨am, cam, rfl, hcam, hmy, hd⟩ := hu
  have HC := Lib.hid hc
  have HD := Lib.hid hd
  have hmx' : l.length ≤ maxLen := by omega
  have hmy' : m.length ≤ maxLen := by omega
  unfold maxLen at hmx' hmy'
  clear hc hd
  go_enter Try.func6, Try.ntmps6
  by_cases h40 : 40 < l.length
  · have h40' : (40 : Int) < (l.length : Int) := by omega
    go_wp2_with fail
    refine (HK.out _).mono ?_
    rintro y wx ⟨rfl, hb⟩
    have HB := Lib.hid hb
    clear hb
    go_wp2_with fail
    go_ret
    exact ⟨rfl, HB.out⟩
  have h40' : decide ((40 : Int) < (l.length : Int)) = false := decide_eq_false (by omega)
  by_cases h41 : 40 < m.length
  · have h41' : (40 : Int) < (m.length : Int) := by omega
    go_wp2_with fail
    refine (HK.out _).mono ?_
    rintro y wx ⟨rfl, hb⟩
    have HB := Lib.hid hb
    clear hb
    go_wp2_with fail
    go_ret
    exact ⟨rfl, HB.out⟩
  have h41' : decide ((40 : Int) < (m.length : Int)) = false := decide_eq_false (by omega)
  cases hov : overF l 2000 with
  | true =>
    rw [hov] at HL
    go_wp2_with fail
    refine HL.out.mono ?_
    rintro y w2 ⟨rfl, rfl⟩
    go_wp2_with fail
    refine (HK.out _).mono ?_
    rintro y wx ⟨rfl, hb⟩
    have HB := Lib.hid hb
    clear hb
    go_wp2_with fail
    go_ret
    exact ⟨rfl, HB.out⟩
  | false =>
    rw [hov] at HL
    have htl := over_len2 l 2000 hov
    cases hov2 : overF m 2000 with
    | true =>
      rw [hov2] at HM
      go_wp2_with fail
      refine HL.out.mono ?_
      rintro y w2 ⟨rfl, rfl⟩
      go_wp2_with fail
      refine HM.out.mono ?_
      rintro y w2 ⟨rfl, rfl⟩
      go_wp2_with fail
      refine (HK.out _).mono ?_
      rintro y wx ⟨rfl, hb⟩
      have HB := Lib.hid hb
      clear hb
      go_wp2_with fail
      go_ret
      exact ⟨rfl, HB.out⟩
    | false =>
      rw [hov2] at HM
      have htm := over_len2 m 2000 hov2
      go_wp2_with fail
      refine HL.out.mono ?_
      rintro y w2 ⟨rfl, rfl⟩
      go_wp2_with fail
      refine HM.out.mono ?_
      rintro y w2 ⟨rfl, rfl⟩
      clear HL HM hov hov2
      have hrf := Below.refl w2.heap.size w2
      have HR := Lib.hid hrf
      clear hrf
      go_wp2_with fail
      refine (HN.out _).mono ?_
      rintro y w1 ⟨pv, S1, rfl, hp, hs, hb⟩
      have hP := Awk.new (Below.refl _ _) (Nat.le_refl _) hp hs hb
      have HP := Lib.hid hP
      obtain ⟨pa, rfl⟩ := hp.ptr
      clear hp hs hb hP
      go_wp2_with fail
      refine (HN.out _).mono ?_
      rintro y w3 ⟨qv, S2, rfl, hp, hs, hb⟩
      have HQ := Lib.hid (Awk.new HP.out.bel HP.out.room hp hs hb)
      have HP2 := Lib.hid (HP.out.later hb)
      have HDj := Lib.hid (disj_new HP.out.pool hs)
      obtain ⟨qa, rfl⟩ := hp.ptr
      clear hp hs hb HN HP
      go_wp2_with fail
      go_loopw [7] (fun i wr => ∃ (k : Nat) (Sp Sq : Nat → Prop), k ≤ l.length ∧ i = .int .i64 k ∧ Awk w2.heap.size w2 wr (.pointer (some pa)) (addsF [] (l.take k)) Sp ∧ Awk w2.heap.size w2 wr (.pointer (some qa)) (addsF [] (l.take k)) Sq ∧ Disj Sq Sp) (fun i _ => l.length - (intOf i).toNat)
      case atStart => exact ⟨0, S1, S2, Nat.zero_le _, rfl, HP2.out, HQ.out, HDj.out⟩
      case round =>
        obtain ⟨k, Sp, Sq, hk, rfl, hP, hQ, hD⟩ := hrel
        clear HP2 HQ HDj
        by_cases hlt : k < l.length
        · obtain ⟨t, htk⟩ : ∃ t, l[k]? = some t := ⟨_, List.getElem?_eq_getElem hlt⟩
          have hts : t.size ≤ 2000 := by have := mem_tot l t (List.mem_of_getElem? htk); omega
          have htx : t.size ≤ maxLen := by unfold maxLen; omega
          have HA := Lib.hid (addsF_step [] l k t htk)
          obtain ⟨g, off, rfl, hg, hcell⟩ := HC.out k t htk
          generalize addsF [] (l.take k) = L at *
          have HX1 := Lib.hid (hP.add t htx)
          have HQ := Lib.hid hQ
          have HDj := Lib.hid hD
          have HB := Lib.hid hP.base
          have hc0 := (hP.bel.cell (p := ⟨g, off + k, none⟩) hg).trans hcell
          have hc1 := Nat.lt_of_lt_of_le hg hP.bel.size
          clear hP hQ hD
          generalize offA L t = ox at *
          generalize lenA L t = lx at *
          generalize eV L t = ex at *
          generalize hbx : isNew L t = bx at *
          go_wp2_with fail
          refine HX1.out.mono ?_
          rintro y wa ⟨rfl, Sp2, hP2, hk2⟩
          have hQ2 := HQ.out.other hk2 HDj.out.symm HB.out
          have HD2 := Lib.hid (HQ.out.apart hk2 HDj.out.symm)
          have HP2 := Lib.hid hP2
          have HX2 := Lib.hid (hQ2.add t htx)
          have HB2 := Lib.hid hQ2.base
          rw [hbx] at HX2
          have hc0 := (hP2.bel.cell (p := ⟨g, off + k, none⟩) hg).trans hcell
          have hc1 := Nat.lt_of_lt_of_le hg hP2.bel.size
          clear hP2 hQ2 hk2 HX1 HQ HB HDj
          go_wp2_with fail
          refine HX2.out.mono ?_
          rintro y wb ⟨rfl, Sq2, hQ3, hk3⟩
          have HP3 := Lib.hid (HP2.out.other hk3 HD2.out.symm HB2.out)
          have HD3 := Lib.hid (HP2.out.apart hk3 HD2.out.symm)
          have HQ3 := Lib.hid hQ3
          clear hQ3 hk3 HP2 HX2 HB2 HD2 hc0 hc1
          go_wp2_with fail
          go_roundw
          case rel => exact ⟨k + 1, Sp2, Sq2, by omega, by go_num, by rw [HA.out]; exact HP3.out, by rw [HA.out]; exact HQ3.out, HD3.out⟩
          case measure => simp [intOf]; omega
        · have hkl : k = l.length := by omega
          subst hkl
          rw [List.take_length] at hP hQ
          have hpos := hP.pool.good.pos
          have hlen := (addsF_len [] l).2
          have htot := addsF_tot [] l
          simp only [totF, List.length_nil] at hlen htot
          generalize addsF [] l = L at *
          have HF := Lib.hid (fork_any _ _ _ _ hP.pool)
          have HP := Lib.hid hP
          have HQ := Lib.hid hQ
          have HDj := Lib.hid hD
          clear hP hQ hD
          go_wp2_with fail
          refine HF.out.mono ?_
          rintro y w4 ⟨fv, S3, rfl, hp, hs, hb⟩
          have HFk := Lib.hid (Awk.new HP.out.bel HP.out.room hp hs hb)
          have HDp := Lib.hid (disj_new HP.out.pool hs)
          have HDq := Lib.hid (disj_new HQ.out.pool hs)
          have HP2 := Lib.hid (HP.out.later hb)
          have HQ2 := Lib.hid (HQ.out.later hb)
          obtain ⟨fa, rfl⟩ := hp.ptr
          clear hp hs hb HP HQ HF
          go_wp2_with fail
          go_loopw [9] (fun i wr => ∃ (k : Nat) (Sf : Nat → Prop), k ≤ m.length ∧ i = .int .i64 k ∧ Awk w2.heap.size w2 wr (.pointer (some fa)) (addsF L (m.take k)) Sf ∧ Awk w2.heap.size w2 wr (.pointer (some pa)) L Sp ∧ Awk w2.heap.size w2 wr (.pointer (some qa)) L Sq ∧ Disj Sf Sp ∧ Disj Sf Sq) (fun i _ => m.length - (intOf i).toNat)
          case atStart => exact ⟨0, S3, Nat.zero_le _, rfl, HFk.out, HP2.out, HQ2.out, HDp.out, HDq.out⟩
          case round =>
            obtain ⟨k, Sf, hk, rfl, hF, hP, hQ, hD1, hD2⟩ := hrel
            clear HFk HP2 HQ2 HDp HDq
            by_cases hlt : k < m.length
            · obtain ⟨t, htk⟩ : ∃ t, m[k]? = some t := ⟨_, List.getElem?_eq_getElem hlt⟩
              have hts : t.size ≤ 2000 := by have := mem_tot m t (List.mem_of_getElem? htk); omega
              have htx : t.size ≤ maxLen := by unfold maxLen; omega
              have HA := Lib.hid (addsF_step L m k t htk)
              obtain ⟨g, off, rfl, hg, hcell⟩ := HD.out k t htk
              generalize addsF L (m.take k) = F at *
              have HX1 := Lib.hid (hF.add t htx)
              have HP := Lib.hid hP
              have HQ := Lib.hid hQ
              have HD1 := Lib.hid hD1
              have HD2 := Lib.hid hD2
              have HB := Lib.hid hF.base
              have hc0 := (hP.bel.cell (p := ⟨g, off + k, none⟩) hg).trans hcell
              have hc1 := Nat.lt_of_lt_of_le hg hP.bel.size
              clear hF hP hQ hD1 hD2
              generalize offA F t = ox at *
              generalize lenA F t = lx at *
              generalize eV F t = ex at *
              generalize isNew F t = bx at *
              go_wp2_with fail
              refine HX1.out.mono ?_
              rintro y wa ⟨rfl, Sf2, hF2, hk2⟩
              have HF2 := Lib.hid hF2
              have HP2 := Lib.hid (HP.out.other hk2 HD1.out HB.out)
              have HQ2 := Lib.hid (HQ.out.other hk2 HD2.out HB.out)
              have HD3 := Lib.hid (HP.out.apart hk2 HD1.out)
              have HD4 := Lib.hid (HQ.out.apart hk2 HD2.out)
              clear hF2 hk2 HP HQ HD1 HD2 HB HX1 hc0 hc1
              go_wp2_with fail
              go_roundw
              case rel => exact ⟨k + 1, Sf2, by omega, by go_num, by rw [HA.out]; exact HF2.out, HP2.out, HQ2.out, HD3.out, HD4.out⟩
              case measure => simp [intOf]; omega
            · have hkl : k = m.length := by omega
              subst hkl
              rw [List.take_length] at hF
              have hposF := hF.pool.good.pos
              obtain ⟨hcp1, hcp2⟩ := cat_pre L m
              have HFnd := Lib.hid (fun k t h h0 h1 => adds_found L m k t h h0 h1 (by omega))
              have HSame := Lib.hid (fun t n h => adds_same L m t n h)
              generalize addsF L m = F at *
              have HTp := Lib.hid (fun W hb => text_any _ _ _ W (hP.pool.below hb))
              have HTq := Lib.hid (fun W hb => text_any _ _ _ W (hQ.pool.below hb))
              have HTf := Lib.hid (fun W hb => text_any _ _ _ W (hF.pool.below hb))
              have HLp := Lib.hid (fun W hb => len_any _ _ _ W (hP.pool.below hb))
              have HLq := Lib.hid (fun W hb => len_any _ _ _ W (hQ.pool.below hb))
              have HF := Lib.hid hF
              have HP := Lib.hid hP
              have HQ := Lib.hid hQ
              have HD1 := Lib.hid hD1
              have HD2 := Lib.hid hD2
              clear hF hP hQ hD1 hD2
              generalize catF L = ct at *
              generalize catF F = cf at *
              have hy1 := str_yes (rfl : ct = ct)
              have hy2 := str_yes hcp2
              have hd1 : decide (cf.size < ct.size) = false := decide_eq_false (by omega)
              go_wp2_with fail
              refine wp_region_held_drew (S := fun w' => Below wr.heap.size wr w') (by kernel_rfl) (Below.drew (Below.refl _ _)) (fun hH0 => ?_)
              refine takeH (i := 0) (d := 74) (v := ?_) rfl rfl (by kernel_rfl) (by kernel_rfl) (by kernel_rfl) (fun _ _ _ h => h) (Or.inl ⟨by rfl, ?y0⟩) hH0 ?_
              case y0 => intro w hSw; go_simp; try with_reducible rfl
              try simp only [Act.put, List.setIfInBounds_toArray, List.set_cons_zero, List.set_cons_succ]
              refine takeH (i := 2) (d := 76) (v := ?_) rfl rfl (by kernel_rfl) (by kernel_rfl) (by kernel_rfl) (fun _ _ _ h => h) (Or.inl ⟨by rfl, ?y2⟩) hH0 ?_
              case y2 => intro w hSw; go_simp; try with_reducible rfl
              try simp only [Act.put, List.setIfInBounds_toArray, List.set_cons_zero, List.set_cons_succ]
              refine wpAnyH_ready (rs := [1]) (by kernel_rfl) (by simp) ?_
              refine AllReadyH.cons rfl (fun K hK => ?_) AllReadyH.nil
              go_simp
              refine (HTp.out _ (by assumption)).mono ?_
              rintro e w' ⟨rfl, hb⟩
              go_wp2_with fail
              refine hK.out _ _ (hH0.trans (hb.mono hH0.size)) (fun hH1 => ?_)
              clear hK K hb hH0
              try simp only [Act.put, List.setIfInBounds_toArray, List.set_cons_zero, List.set_cons_succ]
              refine wpAnyH_ready (rs := [3]) (by kernel_rfl) (by simp) ?_
              refine AllReadyH.cons rfl (fun K hK => ?_) AllReadyH.nil
              go_simp
              refine (HTq.out _ (by assumption)).mono ?_
              rintro e w' ⟨rfl, hb⟩
              go_wp2_with fail
              refine hK.out _ _ (hH1.trans (hb.mono hH1.size)) (fun hH2 => ?_)
              clear hK K hb hH1
              try simp only [Act.put, List.setIfInBounds_toArray, List.set_cons_zero, List.set_cons_succ]
              refine takeH (i := 4) (d := 78) (v := ?_) rfl rfl (by kernel_rfl) (by kernel_rfl) (by kernel_rfl) (fun _ _ _ h => h) (Or.inl ⟨by rfl, ?y4⟩) hH2 ?_
              case y4 => intro w hSw; go_simp; try with_reducible rfl
              try simp only [Act.put, List.setIfInBounds_toArray, List.set_cons_zero, List.set_cons_succ]
              refine takeH (i := 5) (d := 79) (v := ?_) rfl rfl (by kernel_rfl) (by kernel_rfl) (by kernel_rfl) (fun _ _ _ h => h) (Or.inl ⟨by rfl, ?y5⟩) hH2 ?_
              case y5 => intro w hSw; go_simp; try with_reducible rfl
              try simp only [Act.put, List.setIfInBounds_toArray, List.set_cons_zero, List.set_cons_succ]
              refine takeH (i := 6) (d := 80) (v := ?_) rfl rfl (by kernel_rfl) (by kernel_rfl) (by kernel_rfl) (fun _ _ _ h => h) (Or.inl ⟨by rfl, ?y6⟩) hH2 ?_
              case y6 => intro w hSw; go_simp; try with_reducible rfl
              try simp only [Act.put, List.setIfInBounds_toArray, List.set_cons_zero, List.set_cons_succ]
              refine takeH (i := 8) (d := 82) (v := ?_) rfl rfl (by kernel_rfl) (by kernel_rfl) (by kernel_rfl) (fun _ _ _ h => h) (Or.inl ⟨by rfl, ?y8⟩) hH2 ?_
              case y8 => intro w hSw; go_simp; try with_reducible rfl
              try simp only [Act.put, List.setIfInBounds_toArray, List.set_cons_zero, List.set_cons_succ]
              refine wpAnyH_ready (rs := [7]) (by kernel_rfl) (by simp) ?_
              refine AllReadyH.cons rfl (fun K hK => ?_) AllReadyH.nil
              go_simp
              refine (HLp.out _ (by assumption)).mono ?_
              rintro e w' ⟨rfl, hb⟩
              go_wp2_with fail
              refine hK.out _ _ (hH2.trans (hb.mono hH2.size)) (fun hH3 => ?_)
              clear hK K hb hH2
              try simp only [Act.put, List.setIfInBounds_toArray, List.set_cons_zero, List.set_cons_succ]
              refine wpAnyH_ready (rs := [9]) (by kernel_rfl) (by simp) ?_
              refine AllReadyH.cons rfl (fun K hK => ?_) AllReadyH.nil
              go_simp
              refine (HLq.out _ (by assumption)).mono ?_
              rintro e w' ⟨rfl, hb⟩
              go_wp2_with fail
              refine hK.out _ _ (hH3.trans (hb.mono hH3.size)) (fun hH4 => ?_)
              clear hK K hb hH3
              try simp only [Act.put, List.setIfInBounds_toArray, List.set_cons_zero, List.set_cons_succ]
              refine takeH (i := 10) (d := 84) (v := ?_) rfl rfl (by kernel_rfl) (by kernel_rfl) (by kernel_rfl) (fun _ _ _ h => h) (Or.inl ⟨by rfl, ?y10⟩) hH4 ?_
              case y10 => intro w hSw; go_simp; try with_reducible rfl
              try simp only [Act.put, List.setIfInBounds_toArray, List.set_cons_zero, List.set_cons_succ]
              refine takeH (i := 11) (d := 85) (v := ?_) rfl rfl (by kernel_rfl) (by kernel_rfl) (by kernel_rfl) (fun _ _ _ h => h) (Or.inl ⟨by rfl, ?y11⟩) hH4 ?_
              case y11 => intro w hSw; go_simp; try with_reducible rfl
              try simp only [Act.put, List.setIfInBounds_toArray, List.set_cons_zero, List.set_cons_succ]
              refine takeH (i := 12) (d := 86) (v := ?_) rfl rfl (by kernel_rfl) (by kernel_rfl) (by kernel_rfl) (fun _ _ _ h => h) (Or.inl ⟨by rfl, ?y12⟩) hH4 ?_
              case y12 => intro w hSw; go_simp; try with_reducible rfl
              try simp only [Act.put, List.setIfInBounds_toArray, List.set_cons_zero, List.set_cons_succ]
              refine takeH (i := 13) (d := 87) (v := ?_) rfl rfl (by kernel_rfl) (by kernel_rfl) (by kernel_rfl) (fun _ _ _ h => h) (Or.inl ⟨by rfl, ?y13⟩) hH4 ?_
              case y13 => intro w hSw; go_simp; try with_reducible rfl
              try simp only [Act.put, List.setIfInBounds_toArray, List.set_cons_zero, List.set_cons_succ]
              refine takeH (i := 16) (d := 90) (v := ?_) rfl rfl (by kernel_rfl) (by kernel_rfl) (by kernel_rfl) (fun _ _ _ h => h) (Or.inl ⟨by rfl, ?y16⟩) hH4 ?_
              case y16 => intro w hSw; go_simp; try with_reducible rfl
              try simp only [Act.put, List.setIfInBounds_toArray, List.set_cons_zero, List.set_cons_succ]
              refine wpAnyH_ready (rs := [14]) (by kernel_rfl) (by simp) ?_
              refine AllReadyH.cons rfl (fun K hK => ?_) AllReadyH.nil
              go_simp
              refine (HTf.out _ (by assumption)).mono ?_
              rintro e w' ⟨rfl, hb⟩
              go_wp2_with fail
              refine hK.out _ _ (hH4.trans (hb.mono hH4.size)) (fun hH5 => ?_)
              clear hK K hb hH4
              try simp only [Act.put, List.setIfInBounds_toArray, List.set_cons_zero, List.set_cons_succ]
              refine takeH (i := 15) (d := 89) (v := ?_) rfl rfl (by kernel_rfl) (by kernel_rfl) (by kernel_rfl) (fun _ _ _ h => h) (Or.inl ⟨by rfl, ?y15⟩) hH5 ?_
              case y15 => intro w hSw; go_simp; try with_reducible rfl
              try simp only [Act.put, List.setIfInBounds_toArray, List.set_cons_zero, List.set_cons_succ]
              refine wpAnyH_ready (rs := [17]) (by kernel_rfl) (by simp) ?_
              refine AllReadyH.cons rfl (fun K hK => ?_) AllReadyH.nil
              go_simp
              refine (HTp.out _ (by assumption)).mono ?_
              rintro e w' ⟨rfl, hb⟩
              go_wp2_with fail
              refine hK.out _ _ (hH5.trans (hb.mono hH5.size)) (fun hH6 => ?_)
              clear hK K hb hH5
              try simp only [Act.put, List.setIfInBounds_toArray, List.set_cons_zero, List.set_cons_succ]
              refine takeH (i := 18) (d := 92) (v := ?_) rfl rfl (by kernel_rfl) (by kernel_rfl) (by kernel_rfl) (fun _ _ _ h => h) (Or.inl ⟨by rfl, ?y18⟩) hH6 ?_
              case y18 => intro w hSw; go_simp; try with_reducible rfl
              try simp only [Act.put, List.setIfInBounds_toArray, List.set_cons_zero, List.set_cons_succ]
              refine takeH (i := 19) (d := 93) (v := ?_) rfl rfl (by kernel_rfl) (by kernel_rfl) (by kernel_rfl) (fun _ _ _ h => h) (Or.inl ⟨by rfl, ?y19⟩) hH6 ?_
              case y19 => intro w hSw; go_simp; try with_reducible rfl
              try simp only [Act.put, List.setIfInBounds_toArray, List.set_cons_zero, List.set_cons_succ]
              refine takeH (i := 20) (d := 94) (v := ?_) rfl rfl (by kernel_rfl) (by kernel_rfl) (by kernel_rfl) (fun _ _ _ h => h) (Or.inl ⟨by rfl, ?y20⟩) hH6 ?_
              case y20 => intro w hSw; go_simp; try with_reducible rfl
              try simp only [Act.put, List.setIfInBounds_toArray, List.set_cons_zero, List.set_cons_succ]
              refine takeH (i := 21) (d := 95) (v := ?_) rfl rfl (by kernel_rfl) (by kernel_rfl) (by kernel_rfl) (fun _ _ _ h => h) (Or.inl ⟨by rfl, ?y21⟩) hH6 ?_
              case y21 => intro w hSw; go_simp; try with_reducible rfl
              try simp only [Act.put, List.setIfInBounds_toArray, List.set_cons_zero, List.set_cons_succ]
              refine takeH (i := 22) (d := 96) (v := ?_) rfl rfl (by kernel_rfl) (by kernel_rfl) (by kernel_rfl) (fun _ _ _ h => h) (Or.inl ⟨by rfl, ?y22⟩) hH6 ?_
              case y22 => intro w hSw; go_simp; try with_reducible rfl
              try simp only [Act.put, List.setIfInBounds_toArray, List.set_cons_zero, List.set_cons_succ]
              refine takeH (i := 24) (d := 98) (v := ?_) rfl rfl (by kernel_rfl) (by kernel_rfl) (by kernel_rfl) (fun _ _ _ h => h) (Or.inl ⟨by rfl, ?y24⟩) hH6 ?_
              case y24 => intro w hSw; go_simp; try with_reducible rfl
              try simp only [Act.put, List.setIfInBounds_toArray, List.set_cons_zero, List.set_cons_succ]
              refine takeH (i := 28) (d := 102) (v := ?_) rfl rfl (by kernel_rfl) (by kernel_rfl) (by kernel_rfl) (fun _ _ _ h => h) (Or.inl ⟨by rfl, ?y28⟩) hH6 ?_
              case y28 => intro w hSw; go_simp; try with_reducible rfl
              try simp only [Act.put, List.setIfInBounds_toArray, List.set_cons_zero, List.set_cons_succ]
              refine wpAnyH_ready (rs := [23]) (by kernel_rfl) (by simp) ?_
              refine AllReadyH.cons rfl (fun K hK => ?_) AllReadyH.nil
              go_simp
              refine (HTf.out _ (by assumption)).mono ?_
              rintro e w' ⟨rfl, hb⟩
              go_wp2_with fail
              refine hK.out _ _ (hH6.trans (hb.mono hH6.size)) (fun hH7 => ?_)
              clear hK K hb hH6
              try simp only [Act.put, List.setIfInBounds_toArray, List.set_cons_zero, List.set_cons_succ]
              refine wpAnyH_ready (rs := [25]) (by kernel_rfl) (by simp) ?_
              refine AllReadyH.cons rfl (fun K hK => ?_) AllReadyH.nil
              go_simp
              refine (HTp.out _ (by assumption)).mono ?_
              rintro e w' ⟨rfl, hb⟩
              go_wp2_with fail
              refine hK.out _ _ (hH7.trans (hb.mono hH7.size)) (fun hH8 => ?_)
              clear hK K hb hH7
              try simp only [Act.put, List.setIfInBounds_toArray, List.set_cons_zero, List.set_cons_succ]
              refine takeH (i := 26) (d := 100) (v := ?_) rfl rfl (by kernel_rfl) (by kernel_rfl) (by kernel_rfl) (fun _ _ _ h => h) (Or.inl ⟨by rfl, ?y26⟩) hH8 ?_
              case y26 => intro w hSw; go_simp; try with_reducible rfl
              try simp only [Act.put, List.setIfInBounds_toArray, List.set_cons_zero, List.set_cons_succ]
              refine takeH (i := 27) (d := 101) (v := ?_) rfl rfl (by kernel_rfl) (by kernel_rfl) (by kernel_rfl) (fun _ _ _ h => h) (Or.inl ⟨by rfl, ?y27⟩) hH8 ?_
              case y27 => intro w hSw; go_simp; try with_reducible rfl
              try simp only [Act.put, List.setIfInBounds_toArray, List.set_cons_zero, List.set_cons_succ]
              refine wpAnyH_ready (rs := [29]) (by kernel_rfl) (by simp) ?_
              refine AllReadyH.cons rfl (fun K hK => ?_) AllReadyH.nil
              go_simp
              refine (HTp.out _ (by assumption)).mono ?_
              rintro e w' ⟨rfl, hb⟩
              go_wp2_with fail
              refine hK.out _ _ (hH8.trans (hb.mono hH8.size)) (fun hH9 => ?_)
              clear hK K hb hH8
              try simp only [Act.put, List.setIfInBounds_toArray, List.set_cons_zero, List.set_cons_succ]
              refine takeH (i := 30) (d := 104) (v := ?_) rfl rfl (by kernel_rfl) (by kernel_rfl) (by kernel_rfl) (fun _ _ _ h => h) (Or.inl ⟨by rfl, ?y30⟩) hH9 ?_
              case y30 => intro w hSw; go_simp; try with_reducible rfl
              try simp only [Act.put, List.setIfInBounds_toArray, List.set_cons_zero, List.set_cons_succ]
              refine takeH (i := 31) (d := 105) (v := ?_) rfl rfl (by kernel_rfl) (by kernel_rfl) (by kernel_rfl) (fun _ _ _ h => h) (Or.inl ⟨by rfl, ?y31⟩) hH9 ?_
              case y31 => intro w hSw; go_simp; try with_reducible rfl
              try simp only [Act.put, List.setIfInBounds_toArray, List.set_cons_zero, List.set_cons_succ]
              refine wpAnyH_done (by kernel_rfl) ?_ _
              clear HTp HTq HTf HLp HLq hy1 hy2 hd1
              have HP2 := Lib.hid (HP.out.later hH9)
              have HQ2 := Lib.hid (HQ.out.later hH9)
              have HF2 := Lib.hid (HF.out.later hH9)
              clear HP HQ HF hH9
              go_wp2_with fail
              refine (HP2.out.add tOwn (by decide +kernel)).mono ?_
              rintro y wo ⟨rfl, Sp2, hP3, hk3⟩
              have HF3 := Lib.hid (HF2.out.other hk3 HD1.out.symm HP2.out.base)
              have HQ3 := Lib.hid (HQ2.out.other hk3 HDj.out.symm HP2.out.base)
              clear hP3 hk3 HP2 HQ2 HF2 HD1 HD2 HDj
              go_wp2_with fail
              go_loopw [10] (fun i wx => ∃ k : Nat, k ≤ m.length ∧ i = .int .i64 k ∧ Below wo.heap.size wo wx) (fun i _ => m.length - (intOf i).toNat)
              case atStart => exact ⟨0, Nat.zero_le _, rfl, Below.refl _ _⟩
              case round =>
                obtain ⟨k, hk, rfl, hbw⟩ := hrel
                by_cases hlt : k < m.length
                · obtain ⟨t, htk⟩ : ∃ t, m[k]? = some t := ⟨_, List.getElem?_eq_getElem hlt⟩
                  have hts : t.size ≤ 2000 := by have := mem_tot m t (List.mem_of_getElem? htk); omega
                  have htx : t.size ≤ maxLen := by unfold maxLen; omega
                  obtain ⟨g, off, rfl, hg, hcell⟩ := HD.out k t htk
                  have HF4 := Lib.hid (HF3.out.later hbw)
                  have HQ4 := Lib.hid (HQ3.out.later hbw)
                  have HB := Lib.hid hbw
                  have hX1 := find_any _ _ _ t _ HF4.out.pool htx
                  have hX2 := fun W hb => find_any _ _ _ t W (HQ4.out.pool.below hb) htx
                  have hc0 := (HF4.out.bel.cell (p := ⟨g, off + k, none⟩) hg).trans hcell
                  have hc1 := Nat.lt_of_lt_of_le hg HF4.out.bel.size
                  clear hbw hcell hg
                  by_cases h0 : t.size = 0
                  · have hemp := str_emp2 t h0
                    rw [find_empty F hposF t h0] at hX1
                    rw [find_empty L hpos t h0] at hX2
              
                    rw [show ((offV none : Nat) : Int) = 0 from rfl, show ((lenV none t : Nat) : Int) = 0 from rfl, show (none : Option Nat).isSome = false from rfl] at hX1
                    simp only [show ((offV none : Nat) : Int) = 0 from rfl, show ((lenV none t : Nat) : Int) = 0 from rfl, show (none : Option Nat).isSome = false from rfl] at hX2
                    have HX1 := Lib.hid hX1
                    have HX2 := Lib.hid hX2
                    clear hX1 hX2
                    go_wp2_with fail
                    refine HX1.out.mono ?_
                    rintro y wa ⟨rfl, hb⟩
                    have T1 := Lib.hid (two_new wa (.int .u64 0) (.int .u32 0) 31)
                    have hb2 := hb.alloc hb.size (.cells #[.int .u64 0, .int .u32 0] 31)
                    have HX2b := Lib.hid (HX2.out _ hb2)
                    have HB2 := Lib.hid (HB.out.trans (hb2.mono HB.out.size))
                    have hc0 := (hb2.cell (p := ⟨g, off + k, none⟩) hc1).trans hc0
                    have hc1 := Nat.lt_of_lt_of_le hc1 hb2.size
                    clear hb hb2 HX1 HX2 HB
                    go_wp2_with fail
                    refine HX2b.out.mono ?_
                    rintro y wb ⟨rfl, hb⟩
                    have T2 := Lib.hid (two_new wb (.int .u64 0) (.int .u32 0) 31)
                    have hb2 := hb.alloc hb.size (.cells #[.int .u64 0, .int .u32 0] 31)
                    have T3 := T1.out.below hb2
                    have HB3 := Lib.hid (HB2.out.trans (hb2.mono HB2.out.size))
                    have hc0 := (hb2.cell (p := ⟨g, off + k, none⟩) hc1).trans hc0
                    have hc1 := Nat.lt_of_lt_of_le hc1 hb2.size
                    obtain ⟨c0, c1, -, -⟩ := id T3
                    have c2 := T3.lt
                    obtain ⟨d0, d1, -, -⟩ := id T2.out
                    have d2 := T2.out.lt
                    clear hb hb2 HX2b HB2 T1 T2 T3
                    go_wp2_with fail
                    go_roundw
                    case rel => exact ⟨k + 1, by omega, by go_num, HB3.out⟩
                    case measure => simp [intOf]; omega
                  · have hfull := str_full2 t h0
                    obtain ⟨n, hn⟩ := HFnd.out k t htk (by omega) (by omega)
                    rw [hn] at hX1
                    cases hq : findF t L 0 with
                    | none =>
                      rw [hq] at hX2
                      rw [show ((offV (some n) : Nat) : Int) = ((n : Nat) : Int) from rfl, show ((lenV (some n) t : Nat) : Int) = ((t.size : Nat) : Int) from rfl, show ((some n) : Option Nat).isSome = true from rfl] at hX1
                      simp only [show ((offV none : Nat) : Int) = 0 from rfl, show ((lenV none t : Nat) : Int) = 0 from rfl, show (none : Option Nat).isSome = false from rfl] at hX2
                      have HX1 := Lib.hid hX1
                      have HX2 := Lib.hid hX2
                      clear hX1 hX2
                      go_wp2_with fail
                      refine HX1.out.mono ?_
                      rintro y wa ⟨rfl, hb⟩
                      have T1 := Lib.hid (two_new wa (.int .u64 n) (.int .u32 t.size) 31)
                      have hb2 := hb.alloc hb.size (.cells #[.int .u64 n, .int .u32 t.size] 31)
                      have HX2b := Lib.hid (HX2.out _ hb2)
                      have HB2 := Lib.hid (HB.out.trans (hb2.mono HB.out.size))
                      have hc0 := (hb2.cell (p := ⟨g, off + k, none⟩) hc1).trans hc0
                      have hc1 := Nat.lt_of_lt_of_le hc1 hb2.size
                      clear hb hb2 HX1 HX2 HB
                      go_wp2_with fail
                      refine HX2b.out.mono ?_
                      rintro y wb ⟨rfl, hb⟩
                      have T2 := Lib.hid (two_new wb (.int .u64 0) (.int .u32 0) 31)
                      have hb2 := hb.alloc hb.size (.cells #[.int .u64 0, .int .u32 0] 31)
                      have T3 := T1.out.below hb2
                      have HB3 := Lib.hid (HB2.out.trans (hb2.mono HB2.out.size))
                      have hc0 := (hb2.cell (p := ⟨g, off + k, none⟩) hc1).trans hc0
                      have hc1 := Nat.lt_of_lt_of_le hc1 hb2.size
                      obtain ⟨c0, c1, -, -⟩ := id T3
                      have c2 := T3.lt
                      obtain ⟨d0, d1, -, -⟩ := id T2.out
                      have d2 := T2.out.lt
                      clear hb hb2 HX2b HB2 T1 T2 T3
                      go_wp2_with fail
                      go_roundw
                      case rel => exact ⟨k + 1, by omega, by go_num, HB3.out⟩
                      case measure => simp [intOf]; omega
                    | some n' =>
                      have he := HSame.out t n' hq
                      rw [hn] at he
                      injection he with he
                      subst he
                      rw [hq] at hX2
                      rw [show ((offV (some n) : Nat) : Int) = ((n : Nat) : Int) from rfl, show ((lenV (some n) t : Nat) : Int) = ((t.size : Nat) : Int) from rfl, show ((some n) : Option Nat).isSome = true from rfl] at hX1
                      simp only [show ((offV (some n) : Nat) : Int) = ((n : Nat) : Int) from rfl, show ((lenV (some n) t : Nat) : Int) = ((t.size : Nat) : Int) from rfl, show (some n : Option Nat).isSome = true from rfl] at hX2
                      have HX1 := Lib.hid hX1
                      have HX2 := Lib.hid hX2
                      clear hX1 hX2
                      go_wp2_with fail
                      refine HX1.out.mono ?_
                      rintro y wa ⟨rfl, hb⟩
                      have T1 := Lib.hid (two_new wa (.int .u64 n) (.int .u32 t.size) 31)
                      have hb2 := hb.alloc hb.size (.cells #[.int .u64 n, .int .u32 t.size] 31)
                      have HX2b := Lib.hid (HX2.out _ hb2)
                      have HB2 := Lib.hid (HB.out.trans (hb2.mono HB.out.size))
                      have hc0 := (hb2.cell (p := ⟨g, off + k, none⟩) hc1).trans hc0
                      have hc1 := Nat.lt_of_lt_of_le hc1 hb2.size
                      clear hb hb2 HX1 HX2 HB
                      go_wp2_with fail
                      refine HX2b.out.mono ?_
                      rintro y wb ⟨rfl, hb⟩
                      have T2 := Lib.hid (two_new wb (.int .u64 n) (.int .u32 t.size) 31)
                      have hb2 := hb.alloc hb.size (.cells #[.int .u64 n, .int .u32 t.size] 31)
                      have T3 := T1.out.below hb2
                      have HB3 := Lib.hid (HB2.out.trans (hb2.mono HB2.out.size))
                      have hc0 := (hb2.cell (p := ⟨g, off + k, none⟩) hc1).trans hc0
                      have hc1 := Nat.lt_of_lt_of_le hc1 hb2.size
                      obtain ⟨c0, c1, -, -⟩ := id T3
                      have c2 := T3.lt
                      obtain ⟨d0, d1, -, -⟩ := id T2.out
                      have d2 := T2.out.lt
                      clear hb hb2 HX2b HB2 T1 T2 T3
                      go_wp2_with fail
                      go_roundw
                      case rel => exact ⟨k + 1, by omega, by go_num, HB3.out⟩
                      case measure => simp [intOf]; omega
                · have HF4 := Lib.hid (HF3.out.later hbw)
                  clear hbw
                  go_wp2_with fail
                  refine (HK.out _).mono ?_
                  rintro y wz ⟨rfl, hb⟩
                  have HF5 := Lib.hid (HF4.out.later hb)
                  clear hb HF4
                  go_wp2_with fail
                  go_ret
                  exact ⟨rfl, HF5.out.bel⟩
end Go.Proofs.Ytegboojhebhlnaa
