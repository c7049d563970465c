/- The walk of PoolKeeps. -/
import Derived.Test.YtegboojhebhlnaaKe
import Derived.Test.YtegboojhebhlnaaKf
import Derived.Test.YtegboojhebhlnaaKw
namespace Go.Proofs.Ytegboojhebhlnaa
open Go.RowKit
set_option linter.unusedVariables false
set_option linter.unusedSimpArgs false
theorem box_side {S : Nat → Prop} {W W' : World} {g : Nat} {x y : Value} (h : Two W g x y) (hb : Below W.heap.size W W') (hS : ∀ b, S b → W.heap.size ≤ b) : Side S W' g x y :=
  ⟨h.below hb, fun hg => absurd (hS _ hg) (Nat.not_le.2 h.lt)⟩
theorem over_len (l : List ByteArray) (M : Int) (h : overF l M = false) : (totF l : Int) ≤ M := by
  unfold overF at h
  rw [decide_eq_false_iff_not] at h
  omega
set_option maxRecDepth 20000 in
set_option maxHeartbeats 4000000 in
theorem poolkeeps_law (v : Value) (l : List ByteArray) (a b : Int) (w : World) (hv : StrsAt w v l) (hm : ∀ t ∈ l, t.size ≤ maxLen) (a0 : 0 ≤ a) (a1 : a ≤ 18446744073709551615) (b0 : 0 ≤ b) (b1 : b ≤ 4294967295) :
    Calls Try.prog 3 #[v, .agg #[.int .u64 a, .int .u32 b]] w fun e w' => e = .returned (.bool true) ∧ Below w.heap.size w w' := by
  have HN := Lib.hid new_any
  have HK := Lib.hid awake_any
  have HL := Lib.hid (fun W (hb : Below w.heap.size w W) => long_any v l 3000 W (hv.below hb) hm (by omega) (by omega))
  have hB0 : Below w.heap.size w (w.alloc (.cells #[.int .u64 a, .int .u32 b] 26)) := Below.alloc (Below.refl _ _) (Nat.le_refl _) _
  have HB0 := Lib.hid hB0
  have HT0 := Lib.hid (two_new w (.int .u64 a) (.int .u32 b) 26)
  obtain ⟨al, cap, rfl, hcap, hmx, hc⟩ := hv
  have HC := Lib.hid hc
  have hmx' : l.length ≤ maxLen := by omega
  unfold maxLen at hmx'
  clear hc hB0
  go_enter Try.func3, Try.ntmps3
  go_wp2_with fail
  refine (HN.out _).mono ?_
  rintro y w1 ⟨pv, S1, rfl, hp, hs, hb⟩
  have hA : Awk w.heap.size w w1 pv [] S1 := Awk.new HB0.out HB0.out.size hp hs hb
  have hSd : Side S1 w1 w.heap.size (.int .u64 a) (.int .u32 b) := box_side HT0.out hb hs
  have HA := Lib.hid hA
  have HSd := Lib.hid hSd
  obtain ⟨pa, rfl⟩ := hp.ptr
  clear hp hs hb HN hA hSd HT0 HB0
  by_cases h60 : 60 < l.length
  · have h60' : (60 : Int) < (l.length : Int) := by omega
    go_wp2_with fail
    refine (HK.out _).mono ?_
    rintro y w2 ⟨rfl, hb⟩
    have HB := Lib.hid (HA.out.bel.trans (hb.mono HA.out.room))
    clear hb
    go_wp2_with fail
    go_ret
    exact ⟨rfl, HB.out⟩
  have h60' : ¬ (60 : Int) < (l.length : Int) := by omega
  cases hov : overF l 3000 with
  | true =>
    rw [hov] at HL
    go_wp2_with fail
    refine (HL.out _ HA.out.bel).mono ?_
    rintro y w2 ⟨rfl, rfl⟩
    go_wp2_with fail
    refine (HK.out _).mono ?_
    rintro y w2 ⟨rfl, hb⟩
    have HB := Lib.hid (HA.out.bel.trans (hb.mono HA.out.room))
    clear hb
    go_wp2_with fail
    go_ret
    exact ⟨rfl, HB.out⟩
  | false =>
    rw [hov] at HL
    have htot := over_len l 3000 hov
    go_wp2_with fail
    refine (HL.out _ HA.out.bel).mono ?_
    rintro y w2 ⟨rfl, rfl⟩
    clear HL hov
    go_wp2_with fail
    go_loopw [6, 7] (fun av i wr => ∃ (k : Nat) (S : Nat → Prop), k ≤ l.length ∧ i = .int .i64 k ∧ Awk w.heap.size w wr (.pointer (some pa)) (addsF [] (l.take k)) S ∧ Side S wr w.heap.size (.int .u64 a) (.int .u32 b) ∧ StrsAt wr av (addsF [] (l.take k)) ∧ Off S wr av) (fun _ i _ => l.length - (intOf i).toNat)
    case atStart => exact ⟨0, S1, Nat.zero_le _, rfl, HA.out, HSd.out, strsAt_nil _, off_nil _ _ _ _⟩
    case round =>
      obtain ⟨k, S, hk, rfl, hA, hSd, hST, hO⟩ := hrel
      clear HA HSd
      by_cases hlt : k < l.length
      · obtain ⟨t, htk⟩ : ∃ t, l[k]? = some t := ⟨_, List.getElem?_eq_getElem hlt⟩
        have hts : t.size ≤ 3000 := by have := mem_tot l t (List.mem_of_getElem? htk); omega
        have htm : t.size ≤ maxLen := by unfold maxLen; omega
        have HM := Lib.hid (addsF_step [] l k t htk)
        have hlen := addsF_len [] (l.take k)
        rw [List.length_take] at hlen
        have htt : totF (addsF [] (l.take k)) ≤ 3000 := by
          have h1 := addsF_tot [] (l.take k)
          have h2 := totF_take l k
          simp only [totF] at h1
          omega
        have hlen2 := newL_len (addsF [] (l.take k)) t
        have htt2 := newL_tot (addsF [] (l.take k)) t
        rw [List.length_nil] at hlen
        generalize addsF [] (l.take k) = L at *
        obtain ⟨g, off, rfl, hg, hcell⟩ := HC.out k t htk
        have HCL : Hid (∀ W, Below w.heap.size w W → W.cell? ⟨g, off + k, none⟩ = some (.string t)) := Lib.hid (fun W hb => (hb.cell (p := ⟨g, off + k, none⟩) hg).trans hcell)
        have HGL : Hid (∀ W, Below w.heap.size w W → g < W.heap.size) := Lib.hid (fun W hb => Nat.lt_of_lt_of_le hg hb.size)
        have A_0 := Lib.hid (hA)
        have Sd_0 := Lib.hid (hSd)
        have ST_0 := Lib.hid (hST)
        have O_0 := Lib.hid (hO)
        clear hA hSd hST hO hcell hg
        have HX1 := Lib.hid (A_0.out.add t htm)
        generalize hox : offA L t = ox at *
        generalize hlx : lenA L t = lx at *
        generalize hbx : isNew L t = bx at *
        generalize hex : eV L t = ex at *
        have hc1 := HCL.out _ A_0.out.bel
        have hg1 := HGL.out _ A_0.out.bel
        go_wp2_with fail
        refine HX1.out.mono ?_
        rintro y wa ⟨rfl, S2, hA2, hk2⟩
        have HK2 := Lib.hid hk2
        have A_1 := Lib.hid (hA2.alloc (.cells #[.int .u64 ox, .int .u32 lx] 31))
        have Sd_1 := Lib.hid ((Sd_0.out.kept HK2.out).alloc (.cells #[.int .u64 ox, .int .u32 lx] 31))
        have ST_1 := Lib.hid ((ST_0.out.kept O_0.out HK2.out).below (Below.alloc (Below.refl _ _) (Nat.le_refl _) (.cells #[.int .u64 ox, .int .u32 lx] 31)))
        have O_1 := Lib.hid ((O_0.out.kept HK2.out).below (W' := wa.alloc (.cells #[.int .u64 ox, .int .u32 lx] 31)) (by simp))
        have N0_0 := Lib.hid (side_new (.int .u64 ox) (.int .u32 lx) 31 hA2.pool.lt)
        clear hA2 hk2 HK2 HX1 A_0 Sd_0 ST_0 O_0 hc1 hg1
        have HX2 := Lib.hid (radd_any _ L t _ ST_1.out (by omega))
        unfold RAddEnd at HX2
        rw [hox, hlx, hbx, hex] at HX2
        have hc2 := HCL.out _ A_1.out.bel
        have hg2 := HGL.out _ A_1.out.bel
        go_wp2_with fail
        refine HX2.out.mono ?_
        rintro y wb ⟨v', rfl, hst, hbb, hof⟩
        have N1_0 := Lib.hid (side_new (.int .u64 ox) (.int .u32 lx) 26 (A_1.out.later hbb).pool.lt)
        have O_2 := Lib.hid ((O_1.out.turn hbb.size A_1.out.pool.lt hof).below (W' := wb.alloc (.cells #[.int .u64 ox, .int .u32 lx] 26)) (by simp))
        have A_2 := Lib.hid ((A_1.out.later hbb).alloc (.cells #[.int .u64 ox, .int .u32 lx] 26))
        have Sd_2 := Lib.hid ((Sd_1.out.below hbb).alloc (.cells #[.int .u64 ox, .int .u32 lx] 26))
        have N0_1 := Lib.hid ((N0_0.out.below hbb).alloc (.cells #[.int .u64 ox, .int .u32 lx] 26))
        have ST_2 := Lib.hid (hst.below (Below.alloc (Below.refl _ _) (Nat.le_refl _) (.cells #[.int .u64 ox, .int .u32 lx] 26)))
        clear hst hbb hof HX2 O_1 A_1 Sd_1 N0_0 ST_1 hc2 hg2
        generalize hM : newL L t = M at *
        generalize hoy : offV (findF t M 0) = oy at *
        generalize hly : lenV (findF t M 0) t = ly at *
        generalize hby : (findF t M 0).isSome = byy at *
        have HF1 := Lib.hid (find_any _ _ _ t _ A_2.out.pool htm)
        rw [hoy, hly, hby] at HF1
        have HF1b := Lib.hid (HF1.out)
        have hc3 := HCL.out _ A_2.out.bel
        have hg3 := HGL.out _ A_2.out.bel
        go_wp2_with fail
        refine HF1b.out.mono ?_
        rintro y wc ⟨rfl, hbb⟩
        have N2_0 := Lib.hid (side_new (.int .u64 oy) (.int .u32 ly) 31 (A_2.out.later hbb).pool.lt)
        have A_3 := Lib.hid ((A_2.out.later hbb).alloc (.cells #[.int .u64 oy, .int .u32 ly] 31))
        have O_3 := Lib.hid ((O_2.out.below hbb.size).below (W' := wc.alloc (.cells #[.int .u64 oy, .int .u32 ly] 31)) (by simp))
        have ST_3 := Lib.hid ((ST_2.out.below hbb).below (Below.alloc (Below.refl _ _) (Nat.le_refl _) (.cells #[.int .u64 oy, .int .u32 ly] 31)))
        have Sd_3 := Lib.hid ((Sd_2.out.below hbb).alloc (.cells #[.int .u64 oy, .int .u32 ly] 31))
        have N0_2 := Lib.hid ((N0_1.out.below hbb).alloc (.cells #[.int .u64 oy, .int .u32 ly] 31))
        have N1_1 := Lib.hid ((N1_0.out.below hbb).alloc (.cells #[.int .u64 oy, .int .u32 ly] 31))
        clear hbb HF1b A_2 O_2 ST_2 Sd_2 N0_1 N1_0 hc3 hg3
        clear HF1
        have HF2 := Lib.hid (rfind_any _ _ t _ ST_3.out (by omega) (by omega))
        rw [hoy, hly, hby] at HF2
        have HF2b := Lib.hid (HF2.out)
        have hc4 := HCL.out _ A_3.out.bel
        have hg4 := HGL.out _ A_3.out.bel
        go_wp2_with fail
        refine HF2b.out.mono ?_
        rintro y wd ⟨rfl, hbb⟩
        have N3_0 := Lib.hid (side_new (.int .u64 oy) (.int .u32 ly) 26 (A_3.out.later hbb).pool.lt)
        have A_4 := Lib.hid ((A_3.out.later hbb).alloc (.cells #[.int .u64 oy, .int .u32 ly] 26))
        have O_4 := Lib.hid ((O_3.out.below hbb.size).below (W' := wd.alloc (.cells #[.int .u64 oy, .int .u32 ly] 26)) (by simp))
        have ST_4 := Lib.hid ((ST_3.out.below hbb).below (Below.alloc (Below.refl _ _) (Nat.le_refl _) (.cells #[.int .u64 oy, .int .u32 ly] 26)))
        have Sd_4 := Lib.hid ((Sd_3.out.below hbb).alloc (.cells #[.int .u64 oy, .int .u32 ly] 26))
        have N0_3 := Lib.hid ((N0_2.out.below hbb).alloc (.cells #[.int .u64 oy, .int .u32 ly] 26))
        have N1_2 := Lib.hid ((N1_1.out.below hbb).alloc (.cells #[.int .u64 oy, .int .u32 ly] 26))
        have N2_1 := Lib.hid ((N2_0.out.below hbb).alloc (.cells #[.int .u64 oy, .int .u32 ly] 26))
        clear hbb HF2b A_3 O_3 ST_3 Sd_3 N0_2 N1_1 N2_0 hc4 hg4
        clear HF2
        obtain ⟨cN00, cN01, -, -⟩ := id (N0_3.out.1)
        have cN02 := N0_3.out.1.lt
        obtain ⟨cN10, cN11, -, -⟩ := id (N1_2.out.1)
        have cN12 := N1_2.out.1.lt
        obtain ⟨cN20, cN21, -, -⟩ := id (N2_1.out.1)
        have cN22 := N2_1.out.1.lt
        obtain ⟨cN30, cN31, -, -⟩ := id (N3_0.out.1)
        have cN32 := N3_0.out.1.lt
        have HLn := Lib.hid (len_any _ _ _ _ A_4.out.pool)
        obtain ⟨al2, cap2, rfl, hcap2, hmx2, -⟩ := id ST_4.out
        go_wp2_with fail
        refine HLn.out.mono ?_
        rintro y we ⟨rfl, hbb⟩
        have A_5 := Lib.hid (A_4.out.later hbb)
        have O_5 := Lib.hid (O_4.out.below hbb.size)
        have ST_5 := Lib.hid (ST_4.out.below hbb)
        have Sd_5 := Lib.hid (Sd_4.out.below hbb)
        clear hbb HLn A_4 O_4 ST_4 Sd_4 cN00 cN01 cN02 cN10 cN11 cN12 cN20 cN21 cN22 cN30 cN31 cN32
        go_wp2_with fail
        go_roundw
        case rel => exact ⟨k + 1, S2, by omega, by go_num, by rw [HM.out]; exact A_5.out, Sd_5.out, by rw [HM.out]; exact ST_5.out, O_5.out⟩
        case measure => simp [intOf]; omega
      · have hkl : k = l.length := by omega
        subst hkl
        rw [List.take_length] at hA hST
        have htt : totF (addsF [] l) ≤ 3000 := by
          have h1 := addsF_tot [] l
          simp only [totF] at h1
          omega
        generalize addsF [] l = L at *
        have HA := Lib.hid hA
        have HST := Lib.hid hST
        obtain ⟨c0, c1, -, -⟩ := id hSd.1
        have c2 := hSd.1.lt
        have HSd := Lib.hid hSd
        have hod := hA.pool.good.once
        have HG := Lib.hid (get_any _ L S a b _ hA.pool a0 a1 b0 b1)
        have HR := Lib.hid (fun W hb => rget_any _ L a b W (hST.below hb) hod (by omega))
        clear hA hSd hST hO
        generalize getS (getG a b L 0) = gs at *
        generalize (getG a b L 0).isSome = gb at *
        go_wp2_with fail
        refine HG.out.mono ?_
        rintro y wa ⟨rfl, hbb⟩
        have HRb := Lib.hid (HR.out _ hbb)
        have HST1 := Lib.hid (HST.out.below hbb)
        have HA1 := Lib.hid (HA.out.later hbb)
        have HSd1 := Lib.hid (HSd.out.below hbb)
        obtain ⟨d0, d1, -, -⟩ := id HSd1.out.1
        have d2 := HSd1.out.1.lt
        clear hbb HG HR HST HA HSd c0 c1 c2
        go_wp2_with fail
        refine HRb.out.mono ?_
        rintro y wb ⟨rfl, hbb⟩
        have HST2 := Lib.hid (HST1.out.below hbb)
        have HA2 := Lib.hid (HA1.out.later hbb)
        have HTx := Lib.hid (text_any _ L S _ HA2.out.pool)
        clear hbb HRb HST1 HA1 HSd1 d0 d1 d2
        have hstr := str_yes (rfl : gs = gs)
        have hstr2 := str_yes (rfl : catF L = catF L)
        generalize hct : catF L = ct at *
        go_wp2_with fail
        refine HTx.out.mono ?_
        rintro y wc ⟨rfl, hbb⟩
        have HST3 := Lib.hid (HST2.out.below hbb)
        have HA3 := Lib.hid (HA2.out.later hbb)
        have HRt := Lib.hid (rtext_any _ L _ HST3.out (by omega))
        rw [hct] at HRt
        clear hbb HTx HST2 HA2
        go_wp2_with fail
        refine HRt.out.mono ?_
        rintro y wd ⟨rfl, rfl⟩
        go_wp2_with fail
        refine (HK.out _).mono ?_
        rintro y we ⟨rfl, hbb⟩
        have HA4 := Lib.hid (HA3.out.later hbb)
        clear hbb HA3 HST3
        go_wp2_with fail
        go_ret
        exact ⟨rfl, HA4.out.bel⟩
end Go.Proofs.Ytegboojhebhlnaa
