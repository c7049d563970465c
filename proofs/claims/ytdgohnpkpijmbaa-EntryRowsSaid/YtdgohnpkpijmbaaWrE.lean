/- The walk of EntryRows. -/
import Derived.Test.YtdgohnpkpijmbaaAk
namespace Go.Proofs.Ytdgohnpkpijmbaa
open Go.RowKit
set_option linter.unusedVariables false
set_option linter.unusedSimpArgs false
/-- So many entries of one tile each, one behind the other. -/
def mkE : Nat → List En
  | 0 => []
  | n + 1 => mkE n ++ [⟨n, 0, 1, 1⟩]
theorem mkE_len (n : Nat) : (mkE n).length = n := by
  induction n with
  | zero => rfl
  | succ n ih => rw [mkE, List.length_append, ih]; rfl
theorem mkE_may (n : Nat) (h : n ≤ 5000) : MaysN (mkE n) := by
  induction n with
  | zero => intro e he; simp [mkE] at he
  | succ n ih =>
    intro e he
    rw [mkE, List.mem_append, List.mem_singleton] at he
    rcases he with he | rfl
    · exact ih (by omega) e he
    · simp [MayN]; omega
theorem ck_one (n : Nat) (h : n ≤ 5000) : ckN ⟨n, 0, 1, 1⟩ = 0 := by
  simp [ckN, wdN, cnN]
  omega
theorem mkE_cnt (n : Nat) (h : n ≤ 5000) : cntN (mkE n) = n := by
  induction n with
  | zero => rfl
  | succ n ih => rw [mkE, cntN_snoc, ih (by omega), if_pos (ck_one n (by omega))]; simp
theorem mkE_last (n : Nat) : (mkE (n + 1)).foldl (fun _ e => laN e) (-1) = laN ⟨n, 0, 1, 1⟩ := by rw [mkE, List.foldl_append]; rfl
theorem mkE_row (n : Nat) (h : n ≤ 5000) : rowG (-1) (mkE n) = 0 := by
  induction n with
  | zero => rfl
  | succ n ih =>
    rw [mkE, rowG_append _ _ _ (ih (by omega))]
    have hc := ck_one n (by omega)
    cases n with
    | zero => rw [mkE, List.foldl_nil, rowG, if_neg (fun f => f hc), if_neg (by simp)]; rfl
    | succ m =>
      have hl : laN ⟨(m : Nat), 0, 1, 1⟩ = m := by
        have := ck_one m (by omega)
        unfold laN
        rw [if_pos this]
        simp [wdN]
      rw [mkE_last, hl, rowG, if_neg (fun f => f hc), if_neg (by simp; omega)]
      rfl
theorem mkE_rowN (n : Nat) (h : n ≤ 5000) : rowN (mkE n) = if 4096 < n then 21 else 0 := by
  unfold rowN
  rw [mkE_len, mkE_row n h]
set_option maxRecDepth 20000 in
set_option maxHeartbeats 4000000 in
theorem rows_walk (v1 v2 : Value) (a b : List En) (m : Int) (w : World) (h1 : EnsAt w v1 a) (h2 : EnsAt w v2 b) (m1 : MaysN a) (m2 : MaysN b) (n0 : 0 ≤ m) (n1 : m ≤ 65535) : Calls Try.prog 4 #[v1, v2, .int .u16 m] w fun x w' => x = .returned (.bool true) ∧ Below w.heap.size w w' := by
  have HA := Lib.hid awakeN_any
  by_cases g1 : 300 < a.length
  · obtain ⟨al, cap, rfl, _⟩ := h1
    have d1 : decide (300 < (a.length : Int)) = true := by simp; omega
    clear g1
    go_enter Try.func4, Try.ntmps4
    go_wp2_with fail
    refine (HA.out _).mono ?_
    rintro x w1 ⟨rfl, hb⟩
    go_wp2_with fail
    go_ret
    exact ⟨rfl, hb⟩
  by_cases g2 : 300 < b.length
  · obtain ⟨al, cap, rfl, _⟩ := h1
    obtain ⟨al2, cap2, rfl, _⟩ := h2
    have d1 : decide (300 < (a.length : Int)) = false := by simp; omega
    have d2 : decide (300 < (b.length : Int)) = true := by simp; omega
    clear g1 g2
    go_enter Try.func4, Try.ntmps4
    go_wp2_with fail
    refine (HA.out _).mono ?_
    rintro x w1 ⟨rfl, hb⟩
    go_wp2_with fail
    go_ret
    exact ⟨rfl, hb⟩
  have HO1 := Lib.hid (fun W h => ownN_any v1 a W h (by omega))
  have HO2 := Lib.hid (fun W h => ownN_any v2 b W h (by omega))
  have HS1 := Lib.hid h1
  have HS2 := Lib.hid h2
  have PR := Lib.hid (fun v W h => prow_any v a W h m1)
  have RR := Lib.hid (fun v W h => rrowN_any v a W h m1)
  have PC := Lib.hid (fun v W h => pcount_any v a W h m1 (by omega))
  have RC := Lib.hid (fun v W h => rcountN_any v a W h m1 (by omega))
  have PK := Lib.hid (fun v W h => pcont_any v a W h m1 (by omega))
  have RK := Lib.hid (fun v W h => rcontN_any v a W h m1 (by omega))
  have PE := Lib.hid (fun v W h => pend_any v a W h m1 (by omega))
  have RE := Lib.hid (fun v W h => rendN_any v a W h m1 (by omega))
  have PS := Lib.hid (fun x y W h g => psame_any x y a b W h g)
  have RS := Lib.hid (fun x y W h g => rsameN_any x y a b W h g)
  have HN : Hid (∃ n : Nat, n ≤ 4100 ∧ m % 4101 = n) := Lib.hid ⟨(m % 4101).toNat, by omega, by omega⟩
  obtain ⟨r, hr⟩ : ∃ n, rowN a = n := ⟨_, rfl⟩
  obtain ⟨c, hc⟩ : ∃ n, cntN a = n := ⟨_, rfl⟩
  obtain ⟨k, hk⟩ : ∃ n, conN a = n := ⟨_, rfl⟩
  obtain ⟨e, he⟩ : ∃ n, enN a = n := ⟨_, rfl⟩
  obtain ⟨u, hu⟩ : ∃ n, decide (a = b) = n := ⟨_, rfl⟩
  rw [hr] at PR RR
  rw [hc] at PC RC
  rw [hk] at PK RK
  rw [he] at PE RE
  rw [hu] at PS RS
  have hub : (u != u) = false := by simp
  have d1 : decide (300 < (a.length : Int)) = false := by simp; omega
  have d2 : decide (300 < (b.length : Int)) = false := by simp; omega
  obtain ⟨al, cap, rfl, _⟩ := h1
  obtain ⟨al2, cap2, rfl, _⟩ := h2
  clear hr hc hk he hu g1 g2 m1 m2
  go_enter Try.func4, Try.ntmps4
  go_wp2_with fail
  refine (HO1.out _ HS1.out).mono ?_
  rintro x w1 ⟨x1, rfl, ho1, hb1⟩
  have hx1 := ho1.ensAt
  go_wp2_with fail
  refine (HO2.out _ (HS2.out.below hb1)).mono ?_
  rintro x w2 ⟨x2, rfl, ho2, hb2⟩
  have HX := Lib.hid (And.intro (hx1.below hb2) (And.intro ho2.ensAt (And.intro ((HS1.out.below hb1).below hb2) ((HS2.out.below hb1).below hb2))))
  have HU := Lib.hid (hb1.trans (hb2.mono hb1.size))
  clear ho1 ho2 hb1 hb2 hx1 HO1 HO2 HS1 HS2
  go_wp2_with fail
  refine (PR.out _ _ HX.out.1).mono ?_
  rintro x wc1 ⟨rfl, hb⟩
  have HX1 := Lib.hid (And.intro (HX.out.1.below hb) (And.intro (HX.out.2.1.below hb) (And.intro (HX.out.2.2.1.below hb) (HX.out.2.2.2.below hb))))
  have HV1 := Lib.hid (HU.out.trans (hb.mono HU.out.size))
  clear hb HX HU
  go_wp2_with fail
  refine (RR.out _ _ HX1.out.2.2.1).mono ?_
  rintro x wc2 ⟨rfl, hb⟩
  have HX2 := Lib.hid (And.intro (HX1.out.1.below hb) (And.intro (HX1.out.2.1.below hb) (And.intro (HX1.out.2.2.1.below hb) (HX1.out.2.2.2.below hb))))
  have HV2 := Lib.hid (HV1.out.trans (hb.mono HV1.out.size))
  clear hb HX1 HV1
  go_wp2_with fail
  refine (PC.out _ _ HX2.out.1).mono ?_
  rintro x wc3 ⟨rfl, hb⟩
  have HX3 := Lib.hid (And.intro (HX2.out.1.below hb) (And.intro (HX2.out.2.1.below hb) (And.intro (HX2.out.2.2.1.below hb) (HX2.out.2.2.2.below hb))))
  have HV3 := Lib.hid (HV2.out.trans (hb.mono HV2.out.size))
  clear hb HX2 HV2
  go_wp2_with fail
  refine (RC.out _ _ HX3.out.2.2.1).mono ?_
  rintro x wc4 ⟨rfl, hb⟩
  have HX4 := Lib.hid (And.intro (HX3.out.1.below hb) (And.intro (HX3.out.2.1.below hb) (And.intro (HX3.out.2.2.1.below hb) (HX3.out.2.2.2.below hb))))
  have HV4 := Lib.hid (HV3.out.trans (hb.mono HV3.out.size))
  clear hb HX3 HV3
  go_wp2_with fail
  refine (PK.out _ _ HX4.out.1).mono ?_
  rintro x wc5 ⟨rfl, hb⟩
  have HX5 := Lib.hid (And.intro (HX4.out.1.below hb) (And.intro (HX4.out.2.1.below hb) (And.intro (HX4.out.2.2.1.below hb) (HX4.out.2.2.2.below hb))))
  have HV5 := Lib.hid (HV4.out.trans (hb.mono HV4.out.size))
  clear hb HX4 HV4
  go_wp2_with fail
  refine (RK.out _ _ HX5.out.2.2.1).mono ?_
  rintro x wc6 ⟨rfl, hb⟩
  have HX6 := Lib.hid (And.intro (HX5.out.1.below hb) (And.intro (HX5.out.2.1.below hb) (And.intro (HX5.out.2.2.1.below hb) (HX5.out.2.2.2.below hb))))
  have HV6 := Lib.hid (HV5.out.trans (hb.mono HV5.out.size))
  clear hb HX5 HV5
  go_wp2_with fail
  refine (PE.out _ _ HX6.out.1).mono ?_
  rintro x wc7 ⟨rfl, hb⟩
  have HX7 := Lib.hid (And.intro (HX6.out.1.below hb) (And.intro (HX6.out.2.1.below hb) (And.intro (HX6.out.2.2.1.below hb) (HX6.out.2.2.2.below hb))))
  have HV7 := Lib.hid (HV6.out.trans (hb.mono HV6.out.size))
  clear hb HX6 HV6
  go_wp2_with fail
  refine (RE.out _ _ HX7.out.2.2.1).mono ?_
  rintro x wc8 ⟨rfl, hb⟩
  have HX8 := Lib.hid (And.intro (HX7.out.1.below hb) (And.intro (HX7.out.2.1.below hb) (And.intro (HX7.out.2.2.1.below hb) (HX7.out.2.2.2.below hb))))
  have HV8 := Lib.hid (HV7.out.trans (hb.mono HV7.out.size))
  clear hb HX7 HV7
  go_wp2_with fail
  refine (PS.out _ _ _ HX8.out.1 HX8.out.2.1).mono ?_
  rintro x wc9 ⟨rfl, hb⟩
  have HX9 := Lib.hid (And.intro (HX8.out.1.below hb) (And.intro (HX8.out.2.1.below hb) (And.intro (HX8.out.2.2.1.below hb) (HX8.out.2.2.2.below hb))))
  have HV9 := Lib.hid (HV8.out.trans (hb.mono HV8.out.size))
  clear hb HX8 HV8
  go_wp2_with fail
  refine (RS.out _ _ _ HX9.out.2.2.1 HX9.out.2.2.2).mono ?_
  rintro x wc10 ⟨rfl, hb⟩
  have HX10 := Lib.hid (And.intro (HX9.out.1.below hb) (And.intro (HX9.out.2.1.below hb) (And.intro (HX9.out.2.2.1.below hb) (HX9.out.2.2.2.below hb))))
  have HV10 := Lib.hid (HV9.out.trans (hb.mono HV9.out.size))
  clear hb HX9 HV9
  go_wp2_with fail
  obtain ⟨n, hn, hmn⟩ := HN.out
  have hmt : m.tmod 4101 = (n : Int) := by rw [Int.tmod_eq_emod_of_nonneg n0]; exact hmn
  have hw1 : IntKind.i64.wrap (n : Int) = (n : Int) := by rw [IntKind.wrap_i64] <;> omega
  have hw2 : wrap64 (n : Int) = (n : Int) := by rw [IntWalk.wrap64_in _ (by omega)]
  have HMt := Lib.hid (And.intro hmt hmn)
  have HB := Lib.hid HV10.out
  clear HN HX10 HV10 hmt hmn
  obtain ⟨i0, hi, hz0, hz1, hz2⟩ := info_parts info_ent
  have HI0 := Lib.hid hi
  have HZ0 := Lib.hid hz0
  have HZ1 := Lib.hid hz1
  have HZ2 := Lib.hid hz2
  clear hi hz0 hz1 hz2
  go_loopw [9, 10] (fun v s wr => ∃ i : Nat, i ≤ n ∧ s = .int .i64 i ∧ OwnE wr w.heap.size 26 v (mkE i) ∧ Below w.heap.size w wr) (fun _ s _ => n - (intOf s).toNat)
  case atStart => exact ⟨0, Nat.zero_le _, rfl, ownE_nil _ _ _, HB.out⟩
  case round =>
    obtain ⟨i, hi, rfl, hown, hbw⟩ := hrel
    have hmt := HMt.out.1
    have hmn := HMt.out.2
    by_cases hlt : i < n
    · have hsz := hbw.size
      have HOWN : Hid (wr.ownsRow w.heap.size 26 4 u9 (mkE i).length (flat4 (mkE i))) := Lib.hid hown
      have HLEN := Lib.hid (mkE_len i)
      have hwi : IntKind.u64.wrap (i : Int) = (i : Int) := by rw [IntKind.wrap_u64] <;> omega
      have hin : decide ((i : Int) < (n : Int)) = true := by simp; omega
      clear hown
      go_wp2_with (first | (at_builtin; refine wpList_append_own _ rfl _ _ 37 rfl w.heap.size 26 i0 (.agg #[.int .u64 0, .int .u64 0, .int .u32 0, .int .u32 0]) 4 24 Try.underlying37 HI0.out HZ0.out HZ1.out HZ2.out rfl (by decide) _ _ _ rfl (World.ownsRow.alloc HOWN.out _) ⟨wr.heap.size, 0, none⟩ 1 1 [.int .u64 i, .int .u64 0, .int .u32 1, .int .u32 1] rfl rfl ?c2 ?c3 ?c4 ?c5 ?c6 ?_) | fail)
      case c2 =>
        intro j u hu
        match j, hu with
        | 0, hu => simp at hu; subst hu; simp [Addr.add, go_sem]
        | 1, hu => simp at hu; subst hu; simp [Addr.add, go_sem]
        | 2, hu => simp at hu; subst hu; simp [Addr.add, go_sem]
        | 3, hu => simp at hu; subst hu; simp [Addr.add, go_sem]
      case c3 => intro u hu; simp at hu; rcases hu with rfl | rfl | rfl | rfl <;> rfl
      case c4 => rw [HLEN.out]; unfold maxLen; omega
      case c5 => rw [HLEN.out]; omega
      case c6 => simp; omega
      intro v' w5 hown' hgr _
      have hb5 : Below w.heap.size w w5 := (hbw.alloc hsz _).grown hgr (by simp; omega) (fun g hg => (World.ownsRow.lt HOWN.out g hg).1)
      have hO' : OwnE w5 w.heap.size 26 v' (mkE (i + 1)) := owne_conv hown' (by rw [mkE, List.length_append]; rfl) (by rw [mkE, flat4_append]; rfl)
      have HO' := Lib.hid hO'
      clear hown' hgr HOWN hO' hbw
      go_wp2_with fail
      go_roundw
      case rel => exact ⟨i + 1, by omega, by go_num, HO'.out, hb5⟩
      case measure => simp [intOf]; omega
    · obtain rfl : i = n := by omega
      have hin : decide ((i : Int) < (i : Int)) = false := by simp
      have PRm := Lib.hid (fun v W h => prow_any v (mkE i) W h (mkE_may i (by omega)))
      rw [mkE_rowN i (by omega)] at PRm
      have PCm := Lib.hid (fun v W h => pcount_any v (mkE i) W h (mkE_may i (by omega)) (by rw [mkE_len]; omega))
      rw [mkE_cnt i (by omega)] at PCm
      have hens := hown.ensAt
      have HE := Lib.hid hens
      have HBW := Lib.hid hbw
      have hwi : IntKind.u64.wrap (i : Int) = (i : Int) := by rw [IntKind.wrap_u64] <;> omega
      obtain ⟨am, cam, rfl, _⟩ := hens
      have hlen := mkE_len i
      rw [hlen] at HE ⊢
      clear hown hbw hlen
      by_cases hbig : 4096 < i
      · rw [if_pos hbig] at PRm
        have hd : decide (4096 < (i : Int)) = true := by simp; omega
        have hdn : decide (4096 < i) = true := by simp; omega
        clear hbig
        go_wp2_with fail
        refine (PRm.out _ _ HE.out).mono ?_
        rintro x w6 ⟨rfl, hb⟩
        have HE2 := Lib.hid (HE.out.below hb)
        have HB6 := Lib.hid (HBW.out.trans (hb.mono HBW.out.size))
        clear hb
        go_wp2_with fail
        refine (PCm.out _ _ HE2.out).mono ?_
        rintro x w7 ⟨rfl, hb⟩
        have HB7 := Lib.hid (HB6.out.trans (hb.mono HB6.out.size))
        clear hb
        go_wp2_with fail
        refine (HA.out _).mono ?_
        rintro x w8 ⟨rfl, hb⟩
        have u8 := HB7.out.trans (hb.mono HB7.out.size)
        clear hb
        go_wp2_with fail
        go_ret
        exact ⟨rfl, u8⟩
      · rw [if_neg hbig] at PRm
        have hd : decide (4096 < (i : Int)) = false := by simp; omega
        have hdn : decide (4096 < i) = false := by simp; omega
        clear hbig
        go_wp2_with fail
        refine (PRm.out _ _ HE.out).mono ?_
        rintro x w6 ⟨rfl, hb⟩
        have HE2 := Lib.hid (HE.out.below hb)
        have HB6 := Lib.hid (HBW.out.trans (hb.mono HBW.out.size))
        clear hb
        go_wp2_with fail
        refine (PCm.out _ _ HE2.out).mono ?_
        rintro x w7 ⟨rfl, hb⟩
        have HB7 := Lib.hid (HB6.out.trans (hb.mono HB6.out.size))
        clear hb
        go_wp2_with fail
        refine (HA.out _).mono ?_
        rintro x w8 ⟨rfl, hb⟩
        have u8 := HB7.out.trans (hb.mono HB7.out.size)
        clear hb
        go_wp2_with fail
        go_ret
        exact ⟨rfl, u8⟩
theorem rows_law (v1 : Value) (l1 : List En) (v2 : Value) (l2 : List En) (m : Int) (w : World) (s1 : EnsAt w v1 l1) (m1 : MaysN l1) (s2 : EnsAt w v2 l2) (m2 : MaysN l2) (n0 : 0 ≤ m) (n1 : m ≤ 65535) : Calls Try.prog 4 #[v1, v2, .int .u16 m] w fun x w' => x = .returned (.bool true) ∧ Below w.heap.size w w' := rows_walk v1 v2 l1 l2 m w s1 s2 m1 m2 n0 n1
end Go.Proofs.Ytdgohnpkpijmbaa
