/- The walk of EntryParts. -/
import Derived.Test.YtdgohnpkpijmbaaAk
import Derived.Test.YtdgohnpkpijmbaaEo
namespace Go.Proofs.Ytdgohnpkpijmbaa
open Go.RowKit
set_option linter.unusedVariables false
set_option linter.unusedSimpArgs false
theorem append_want {ops : Array Oper} {rest : List Oper} {o : Oper} {a : Act} {w : World} {Q : Exit → Act → World → Prop} (hw : Region.wanted o (yielded ops a.tmps) = true) (s x : Operand) (t tn : TypeId)
    (ho : o.op = .call { callee := .builtin .append, args := #[s, x], argTypes := #[t, tn] }) (vs vx : Value) (hs : a.eval s = vs) (hx : a.eval x = vx)
    (v' : Value) (w' : World) (hr : (Builtin.append_ #[t, tn] o.type #[vs, vx]).run Try.prog w = .ok v' w') (h : wpList Try.prog ops Q rest (a.put o.dst v') w') : wpList Try.prog ops Q (o :: rest) a w :=
  BigFrame.wpList_want hw fun _ hK => Lib.wp_append_run w s x t tn ho vs vx hs hx v' w' hr (hK _ _ h)
theorem may_append {a b : List En} (ha : MaysN a) (hb : MaysN b) : MaysN (a ++ b) := fun e he => (List.mem_append.1 he).elim (ha e) (hb e)
/-- Two lists put behind one another into a row of the call's own. -/
theorem two_appends (W : World) (x y : Value) (a b : List En) (hx : EnsAt W x a) (hy : EnsAt W y b) (hl : a.length + b.length ≤ 100000) :
    ∃ v3 w3 v4 w4, (Builtin.append_ #[37, 37] 37 #[.slice (some ⟨W.heap.size, 0, none⟩) 0 0, x]).run Try.prog (W.alloc (.cells #[] 26)) = .ok v3 w3 ∧
      (Builtin.append_ #[37, 37] 37 #[v3, y]).run Try.prog w3 = .ok v4 w4 ∧ EnsAt w4 v4 (a ++ b) ∧ Below W.heap.size W w4 := by
  have h0 := own_none W _ rfl
  have hB0 : Below W.heap.size W (W.alloc (.cells #[] 26)) := (Below.refl _ _).alloc (Nat.le_refl _) _
  obtain ⟨v3, w3, hr3, ho3, hg3⟩ := append_allE _ W.heap.size _ x [] a h0 (hx.below hB0) (by simp; omega) hB0.size 37
  have hB3 := hB0.grown hg3 hB0.size (fun k hk => (h0.lt k hk).1)
  obtain ⟨v4, w4, hr4, ho4, hg4⟩ := append_allE w3 W.heap.size v3 y ([] ++ a) b ho3 (hy.below hB3) (by simp; omega) hB3.size 37
  have hB4 := hB3.grown hg4 hB3.size (fun k hk => (ho3.lt k hk).1)
  exact ⟨v3, w3, v4, w4, hr3, hr4, ho4.ensAt, hB4⟩
set_option maxRecDepth 20000 in
set_option maxHeartbeats 4000000 in
theorem parts_walk (v1 v2 : Value) (a b : List En) (w : World) (h1 : EnsAt w v1 a) (h2 : EnsAt w v2 b) (m1 : MaysN a) (m2 : MaysN b) : Calls Try.prog 6 #[v1, v2] w fun x w' => x = .returned (.bool true) ∧ Below w.heap.size w w' := by
  have HA := Lib.hid awakeN_any
  by_cases g1 : 100 < a.length
  · obtain ⟨al, cap, rfl, _⟩ := h1
    have d1 : decide (100 < (a.length : Int)) = true := by simp; omega
    have d1n : decide (100 < a.length) = true := by simp; omega
    clear g1
    go_enter Try.func6, Try.ntmps6
    go_wp2_with fail
    refine (HA.out _).mono ?_
    rintro x w1 ⟨rfl, hb⟩
    go_wp2_with fail
    go_ret
    exact ⟨rfl, hb⟩
  by_cases g2 : 100 < b.length
  · obtain ⟨al, cap, rfl, _⟩ := h1
    obtain ⟨al2, cap2, rfl, _⟩ := h2
    have d1 : decide (100 < (a.length : Int)) = false := by simp; omega
    have d2 : decide (100 < (b.length : Int)) = true := by simp; omega
    have d2n : decide (100 < b.length) = true := by simp; omega
    have d1n : decide (100 < a.length) = false := by simp; omega
    clear g1 g2
    go_enter Try.func6, Try.ntmps6
    go_wp2_with fail
    refine (HA.out _).mono ?_
    rintro x w1 ⟨rfl, hb⟩
    go_wp2_with fail
    go_ret
    exact ⟨rfl, hb⟩
  have HO1 := Lib.hid (fun W h => ownN_any v1 a W h (by omega))
  have HO2 := Lib.hid (fun W h => ownN_any v2 b W h (by omega))
  have HS1 := Lib.hid h1
  have HS2 := Lib.hid h2
  have HAp := Lib.hid (fun W x y hx hy => two_appends W x y a b hx hy (by omega))
  have HAq := Lib.hid (fun W x y hx hy => two_appends W x y (a ++ b) a hx hy (by simp; omega))
  have C1 := Lib.hid (fun v W h => pcont_any v a W h m1 (by omega))
  have C2 := Lib.hid (fun v W h => pcont_any v b W h m2 (by omega))
  have CZ := Lib.hid (fun v W h => pcont_any v (a ++ b) W h (may_append m1 m2) (by simp; omega))
  have CQ := Lib.hid (fun v W h => pcont_any v (a ++ b ++ a) W h (may_append (may_append m1 m2) m1) (by simp; omega))
  have N1 := Lib.hid (fun v W h => pcount_any v a W h m1 (by omega))
  have N2 := Lib.hid (fun v W h => pcount_any v b W h m2 (by omega))
  have NZ := Lib.hid (fun v W h => pcount_any v (a ++ b) W h (may_append m1 m2) (by simp; omega))
  have E1 := Lib.hid (fun v W h => pend_any v a W h m1 (by omega))
  have E2 := Lib.hid (fun v W h => pend_any v b W h m2 (by omega))
  have EZ := Lib.hid (fun v W h => pend_any v (a ++ b) W h (may_append m1 m2) (by simp; omega))
  have hc := con_parts a b
  have hcl1 := unl_len (pairN a)
  have b1 := cntN_bd a m1
  have b2 := cntN_bd b m2
  have hlp1 : conN a ≤ a.length := Nat.le_trans (unl_len _) (by unfold pairN; rw [List.length_map]; exact List.length_filter_le _ _)
  have hlp2 : conN b ≤ b.length := Nat.le_trans (unl_len _) (by unfold pairN; rw [List.length_map]; exact List.length_filter_le _ _)
  have hn := cntN_append a b
  have he := enN_append a b
  rw [hn] at NZ
  rw [he] at EZ
  rw [hc.2.2.2] at CQ
  obtain ⟨n1, hn1⟩ : ∃ n, cntN a = n := ⟨_, rfl⟩
  obtain ⟨n2, hn2⟩ : ∃ n, cntN b = n := ⟨_, rfl⟩
  obtain ⟨e1, he1⟩ : ∃ n, enN a = n := ⟨_, rfl⟩
  obtain ⟨e2, he2⟩ : ∃ n, enN b = n := ⟨_, rfl⟩
  obtain ⟨c1, hc1⟩ : ∃ n, conN a = n := ⟨_, rfl⟩
  obtain ⟨c2, hc2⟩ : ∃ n, conN b = n := ⟨_, rfl⟩
  obtain ⟨c3, hc3⟩ : ∃ n, conN (a ++ b) = n := ⟨_, rfl⟩
  rw [hn1] at N1 NZ b1
  rw [hn2] at N2 NZ b2
  rw [he1] at E1 EZ
  rw [he2] at E2 EZ
  rw [hc1] at C1 hc hlp1
  rw [hc2] at C2 hc hlp2
  rw [hc3] at CZ hc CQ
  have hwn : IntKind.u64.wrap (n1 + n2) = n1 + n2 := by rw [IntKind.wrap_u64] <;> omega
  have hwc : IntKind.i64.wrap ((c1 : Int) + (c2 : Int)) = (c1 : Int) + (c2 : Int) := by rw [IntKind.wrap_i64] <;> omega
  have hmx := max_if e1 e2
  have q1 : (c3 : Int) ≤ (c1 : Int) + (c2 : Int) := by omega
  have q2 : (c1 : Int) ≤ (c3 : Int) := by omega
  have q3 : (c2 : Int) ≤ (c3 : Int) := by omega
  have d1 : decide (100 < (a.length : Int)) = false := by simp; omega
  have d2 : decide (100 < (b.length : Int)) = false := by simp; omega
  have d1n : decide (100 < a.length) = false := by simp; omega
  have d2n : decide (100 < b.length) = false := by simp; omega
  obtain ⟨al, cap, rfl, _⟩ := h1
  obtain ⟨al2, cap2, rfl, _⟩ := h2
  clear hn1 hn2 he1 he2 hc1 hc2 hc3 hc hcl1 b1 b2 hlp1 hlp2 hn he g1 g2 m1 m2
  go_enter Try.func6, Try.ntmps6
  go_wp2_with fail
  refine (HO1.out _ HS1.out).mono ?_
  rintro x w1 ⟨x1, rfl, ho1, hb1⟩
  have hx1 := ho1.ensAt
  go_wp2_with fail
  refine (HO2.out _ (HS2.out.below hb1)).mono ?_
  rintro x w2 ⟨x2, rfl, ho2, hb2⟩
  replace hx1 := hx1.below hb2
  have hx2 := ho2.ensAt
  have HU2 := Lib.hid (hb1.trans (hb2.mono hb1.size))
  obtain ⟨v3, w3, v4, w4, hr3, hr4, hz4, hb4⟩ := HAp.out w2 x1 x2 hx1 hx2
  replace hx1 := hx1.below hb4
  replace hx2 := hx2.below hb4
  have HU4 := Lib.hid (HU2.out.trans (hb4.mono HU2.out.size))
  have HX := Lib.hid (And.intro hx1 (And.intro hx2 hz4))
  clear ho1 ho2 hb1 hb2 hb4 hx1 hx2 hz4 HU2 HO1 HO2 HAp HS1 HS2
  go_wp2_with (first | (at_builtin; refine append_want (by rfl) _ _ _ _ rfl _ _ rfl rfl _ _ hr3 ?_) | (at_builtin; refine append_want (by rfl) _ _ _ _ rfl _ _ rfl rfl _ _ hr4 ?_) | fail)
  refine (CZ.out _ _ HX.out.2.2).mono ?_
  rintro x wc1 ⟨rfl, hb⟩
  have HX1 := Lib.hid (And.intro (HX.out.1.below hb) (And.intro (HX.out.2.1.below hb) (HX.out.2.2.below hb)))
  have HV1 := Lib.hid (HU4.out.trans (hb.mono HU4.out.size))
  clear hb HX HU4
  go_wp2_with fail
  refine (NZ.out _ _ HX1.out.2.2).mono ?_
  rintro x wc2 ⟨rfl, hb⟩
  have HX2 := Lib.hid (And.intro (HX1.out.1.below hb) (And.intro (HX1.out.2.1.below hb) (HX1.out.2.2.below hb)))
  have HV2 := Lib.hid (HV1.out.trans (hb.mono HV1.out.size))
  clear hb HX1 HV1
  go_wp2_with fail
  refine (N1.out _ _ HX2.out.1).mono ?_
  rintro x wc3 ⟨rfl, hb⟩
  have HX3 := Lib.hid (And.intro (HX2.out.1.below hb) (And.intro (HX2.out.2.1.below hb) (HX2.out.2.2.below hb)))
  have HV3 := Lib.hid (HV2.out.trans (hb.mono HV2.out.size))
  clear hb HX2 HV2
  go_wp2_with fail
  refine (N2.out _ _ HX3.out.2.1).mono ?_
  rintro x wc4 ⟨rfl, hb⟩
  have HX4 := Lib.hid (And.intro (HX3.out.1.below hb) (And.intro (HX3.out.2.1.below hb) (HX3.out.2.2.below hb)))
  have HV4 := Lib.hid (HV3.out.trans (hb.mono HV3.out.size))
  clear hb HX3 HV3
  go_wp2_with fail
  refine (EZ.out _ _ HX4.out.2.2).mono ?_
  rintro x wc5 ⟨rfl, hb⟩
  have HX5 := Lib.hid (And.intro (HX4.out.1.below hb) (And.intro (HX4.out.2.1.below hb) (HX4.out.2.2.below hb)))
  have HV5 := Lib.hid (HV4.out.trans (hb.mono HV4.out.size))
  clear hb HX4 HV4
  go_wp2_with fail
  refine (E1.out _ _ HX5.out.1).mono ?_
  rintro x wc6 ⟨rfl, hb⟩
  have HX6 := Lib.hid (And.intro (HX5.out.1.below hb) (And.intro (HX5.out.2.1.below hb) (HX5.out.2.2.below hb)))
  have HV6 := Lib.hid (HV5.out.trans (hb.mono HV5.out.size))
  clear hb HX5 HV5
  go_wp2_with fail
  refine (E2.out _ _ HX6.out.2.1).mono ?_
  rintro x wc7 ⟨rfl, hb⟩
  have HX7 := Lib.hid (And.intro (HX6.out.1.below hb) (And.intro (HX6.out.2.1.below hb) (HX6.out.2.2.below hb)))
  have HV7 := Lib.hid (HV6.out.trans (hb.mono HV6.out.size))
  clear hb HX6 HV6
  go_wp2_with fail
  refine (C1.out _ _ HX7.out.1).mono ?_
  rintro x wc8 ⟨rfl, hb⟩
  have HX8 := Lib.hid (And.intro (HX7.out.1.below hb) (And.intro (HX7.out.2.1.below hb) (HX7.out.2.2.below hb)))
  have HV8 := Lib.hid (HV7.out.trans (hb.mono HV7.out.size))
  clear hb HX7 HV7
  go_wp2_with fail
  refine (C2.out _ _ HX8.out.2.1).mono ?_
  rintro x wc9 ⟨rfl, hb⟩
  have HX9 := Lib.hid (And.intro (HX8.out.1.below hb) (And.intro (HX8.out.2.1.below hb) (HX8.out.2.2.below hb)))
  have HV9 := Lib.hid (HV8.out.trans (hb.mono HV8.out.size))
  clear hb HX8 HV8
  go_wp2_with fail
  refine (C1.out _ _ HX9.out.1).mono ?_
  rintro x wc10 ⟨rfl, hb⟩
  have HX10 := Lib.hid (And.intro (HX9.out.1.below hb) (And.intro (HX9.out.2.1.below hb) (HX9.out.2.2.below hb)))
  have HV10 := Lib.hid (HV9.out.trans (hb.mono HV9.out.size))
  clear hb HX9 HV9
  go_wp2_with fail
  refine (C2.out _ _ HX10.out.2.1).mono ?_
  rintro x wc11 ⟨rfl, hb⟩
  have HX11 := Lib.hid (And.intro (HX10.out.1.below hb) (And.intro (HX10.out.2.1.below hb) (HX10.out.2.2.below hb)))
  have HV11 := Lib.hid (HV10.out.trans (hb.mono HV10.out.size))
  clear hb HX10 HV10
  obtain ⟨v5, w5, v6, w6, hr5, hr6, hz6, hb6⟩ := HAq.out _ v4 x1 HX11.out.2.2 HX11.out.1
  have HU20 := Lib.hid (HV11.out.trans (hb6.mono HV11.out.size))
  have HZ6 := Lib.hid hz6
  clear hb6 hz6
  go_wp2_with (first | (at_builtin; refine append_want (by rfl) _ _ _ _ rfl _ _ rfl rfl _ _ hr5 ?_) | (at_builtin; refine append_want (by rfl) _ _ _ _ rfl _ _ rfl rfl _ _ hr6 ?_) | fail)
  refine (CQ.out _ _ HZ6.out).mono ?_
  rintro x w21 ⟨rfl, hb⟩
  have HU21 := Lib.hid (HU20.out.trans (hb.mono HU20.out.size))
  clear hb
  go_wp2_with fail
  refine (HA.out _).mono ?_
  rintro x w22 ⟨rfl, hb⟩
  have u22 := HU21.out.trans (hb.mono HU21.out.size)
  clear hb
  go_wp2_with fail
  go_ret
  exact ⟨rfl, u22⟩
theorem parts_law (v1 : Value) (l1 : List En) (v2 : Value) (l2 : List En) (w : World) (s1 : EnsAt w v1 l1) (m1 : MaysN l1) (s2 : EnsAt w v2 l2) (m2 : MaysN l2) : Calls Try.prog 6 #[v1, v2] w fun x w' => x = .returned (.bool true) ∧ Below w.heap.size w w' := parts_walk v1 v2 l1 l2 w s1 s2 m1 m2
end Go.Proofs.Ytdgohnpkpijmbaa
