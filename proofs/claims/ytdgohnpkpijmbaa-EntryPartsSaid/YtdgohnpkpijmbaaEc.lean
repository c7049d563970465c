/- Contracts of the document's Row, Count and End, over rows of entries. -/
import Derived.Test.YtdgohnpkpijmbaaEb
namespace Go.Proofs.Ytdgohnpkpijmbaa
open Go.RowKit
set_option linter.unusedVariables false
set_option linter.unusedSimpArgs false
/-- Each entry fits. -/
def MaysN (l : List En) : Prop := ∀ e ∈ l, MayN e
theorem cells4 {w w' : World} {g o1 o2 o3 o4 : Nat} {v1 v2 v3 v4 : Value} (hb : Below w.heap.size w w') (h : w.cell? ⟨g, o1, none⟩ = some v1 ∧ w.cell? ⟨g, o2, none⟩ = some v2 ∧ w.cell? ⟨g, o3, none⟩ = some v3 ∧ w.cell? ⟨g, o4, none⟩ = some v4) : w'.cell? ⟨g, o1, none⟩ = some v1 ∧ w'.cell? ⟨g, o2, none⟩ = some v2 ∧ w'.cell? ⟨g, o3, none⟩ = some v3 ∧ w'.cell? ⟨g, o4, none⟩ = some v4 := ⟨ecell_later hb h.1, ecell_later hb h.2.1, ecell_later hb h.2.2.1, ecell_later hb h.2.2.2⟩
theorem keep1E {w w' w1 : World} {g o1 o2 o3 o4 : Nat} {v1 v2 v3 v4 : Value} (hb : Below w'.heap.size w' w1) (h : (w'.cell? ⟨g, o1, none⟩ = some v1 ∧ w'.cell? ⟨g, o2, none⟩ = some v2 ∧ w'.cell? ⟨g, o3, none⟩ = some v3 ∧ w'.cell? ⟨g, o4, none⟩ = some v4) ∧ Below w.heap.size w w') : (w1.cell? ⟨g, o1, none⟩ = some v1 ∧ w1.cell? ⟨g, o2, none⟩ = some v2 ∧ w1.cell? ⟨g, o3, none⟩ = some v3 ∧ w1.cell? ⟨g, o4, none⟩ = some v4) ∧ Below w.heap.size w w1 := ⟨cells4 hb h.1, h.2.trans (hb.mono h.2.size)⟩
theorem keep2E {w w' w1 : World} {g o1 o2 o3 o4 g' p1 p2 p3 p4 : Nat} {v1 v2 v3 v4 u1 u2 u3 u4 : Value} (hb : Below w'.heap.size w' w1) (h : (w'.cell? ⟨g, o1, none⟩ = some v1 ∧ w'.cell? ⟨g, o2, none⟩ = some v2 ∧ w'.cell? ⟨g, o3, none⟩ = some v3 ∧ w'.cell? ⟨g, o4, none⟩ = some v4) ∧ (w'.cell? ⟨g', p1, none⟩ = some u1 ∧ w'.cell? ⟨g', p2, none⟩ = some u2 ∧ w'.cell? ⟨g', p3, none⟩ = some u3 ∧ w'.cell? ⟨g', p4, none⟩ = some u4) ∧ Below w.heap.size w w') : (w1.cell? ⟨g, o1, none⟩ = some v1 ∧ w1.cell? ⟨g, o2, none⟩ = some v2 ∧ w1.cell? ⟨g, o3, none⟩ = some v3 ∧ w1.cell? ⟨g, o4, none⟩ = some v4) ∧ (w1.cell? ⟨g', p1, none⟩ = some u1 ∧ w1.cell? ⟨g', p2, none⟩ = some u2 ∧ w1.cell? ⟨g', p3, none⟩ = some u3 ∧ w1.cell? ⟨g', p4, none⟩ = some u4) ∧ Below w.heap.size w w1 := ⟨cells4 hb h.1, cells4 hb h.2.1, h.2.2.trans (hb.mono h.2.2.size)⟩
theorem max_if (a b : Int) : (if a < b then b else a) = max a b := by omega
/-- The last identifier of the entry ahead of the i-th one. -/
def prvN (l : List En) (i : Nat) : Int := if i = 0 then -1 else laN (l.getD (i - 1) zeroE)
theorem take_one (l : List En) (i : Nat) (e : En) (h : l[i]? = some e) : l.take (i + 1) = l.take i ++ [e] := by
  rw [List.take_add_one, h]; rfl
theorem fold_prv (l : List En) (i : Nat) (hi : i ≤ l.length) : (l.take i).foldl (fun _ e => laN e) (-1) = prvN l i := by
  cases i with
  | zero => rfl
  | succ j =>
    have h : l[j]? = some (l.getD j zeroE) := by rw [List.getD_eq_getElem?_getD, List.getElem?_eq_getElem (by omega)]; rfl
    rw [take_one l j _ h, List.foldl_append]
    unfold prvN
    rw [if_neg (by omega), Nat.add_sub_cancel]
    rfl
/-- A row's error, seen from the i-th entry, where those ahead may be. -/
theorem rowG_at (l : List En) (i : Nat) (e : En) (h : l[i]? = some e) (h0 : rowG (-1) (l.take i) = 0) : rowG (-1) l = (if ckN e ≠ 0 then ckN e else if e.id ≤ prvN l i then 10 else rowG (laN e) (l.drop (i + 1))) ∧ (ckN e = 0 → ¬ e.id ≤ prvN l i → rowG (-1) (l.take (i + 1)) = 0) := by
  have hi : i < l.length := (List.getElem?_eq_some_iff.1 h).1
  have hd : l.drop i = e :: l.drop (i + 1) := by
    rw [List.drop_eq_getElem_cons hi]
    rw [List.getElem?_eq_getElem hi] at h
    rw [Option.some.inj h]
  refine ⟨?_, fun hc ho => ?_⟩
  · conv => lhs; rw [← List.take_append_drop i l]
    rw [rowG_append _ _ _ h0, fold_prv l i (by omega), hd, rowG]
  · rw [take_one l i e h, rowG_append _ _ _ h0, fold_prv l i (by omega), rowG, if_neg (fun f => f hc), if_neg ho]
    rfl
theorem ens_at {w : World} {v : Value} {l : List En} (h : EnsAt w v l) (i : Nat) (hi : i < l.length) : ∃ g off cap, v = .slice (some ⟨g, off, none⟩) l.length cap ∧ l.length ≤ cap ∧ g < w.heap.size ∧ ∀ k e, l[k]? = some e → (w.cell? ⟨g, off + k * 4, none⟩ = some (.int .u64 e.id) ∧ w.cell? ⟨g, off + k * 4 + 1, none⟩ = some (.int .u64 e.off) ∧ w.cell? ⟨g, off + k * 4 + 2, none⟩ = some (.int .u32 e.ln) ∧ w.cell? ⟨g, off + k * 4 + 3, none⟩ = some (.int .u32 e.rn)) := by
  obtain ⟨a, cap, hv, h1, h2, hc⟩ := h
  obtain ⟨e, he⟩ : ∃ e, l[i]? = some e := ⟨_, List.getElem?_eq_getElem hi⟩
  obtain ⟨g, off, rfl, hg, _⟩ := hc i e he
  refine ⟨g, off, cap, hv, h1, hg, fun k f hf => ?_⟩
  obtain ⟨g', off', ha, hg', r⟩ := hc k f hf
  obtain ⟨rfl, rfl⟩ : g = g' ∧ off = off' := by simpa using ha
  exact r
set_option maxRecDepth 20000 in
set_option maxHeartbeats 1000000 in
theorem rcountN_any (v : Value) (l : List En) (w : World) (hv : EnsAt w v l) (hm : MaysN l) (hl : l.length ≤ 100000) : Calls Try.prog 18 #[v] w fun x w' => x = .returned (.int .u64 (cntN l)) ∧ Below w.heap.size w w' := by
  obtain ⟨al, cap, rfl, hcap, _, hc⟩ := hv
  have HC := Lib.hid hc
  have HM := Lib.hid hm
  have hbd := (cntN_bd l hm).2
  have HBD := Lib.hid (fun i => cntN_bd (l.take i) (fun e he => hm e (List.mem_of_mem_take he)))
  clear hc hm
  go_enter Try.func18, Try.ntmps18
  go_wp2_with fail
  go_loopw [3, 4] (fun n s wr => ∃ i : Nat, i ≤ l.length ∧ s = .int .i64 i ∧ n = .int .u64 (cntN (l.take i)) ∧ Below w.heap.size w wr) (fun _ s _ => l.length - (intOf s).toNat)
  case atStart => exact ⟨0, Nat.zero_le _, rfl, rfl, Below.refl _ _⟩
  case round =>
    obtain ⟨i, hi, rfl, rfl, hbw⟩ := hrel
    by_cases hlt : i < l.length
    · obtain ⟨e, he⟩ : ∃ t, l[i]? = some t := ⟨_, List.getElem?_eq_getElem hlt⟩
      obtain ⟨g, off, rfl, hg, l0, l1, l2, l3⟩ := HC.out i e he
      have hme := HM.out e (List.mem_of_getElem? he)
      have HK := Lib.hid (fun W => rcheckN_any e W hme)
      have hcl := cells4 hbw ⟨l0, l1, l2, l3⟩
      have HTK : Hid (cntN (l.take (i + 1)) = cntN (l.take i) + (if ckN e = 0 then e.rn else 0)) := Lib.hid (by rw [take_one l i e he, cntN_snoc])
      have hi2 : (i : Int) < (l.length : Int) := by omega
      have hB0 := HBD.out i
      have hB1 := HBD.out (i + 1)
      rw [HTK.out] at hB1
      rw [List.length_take] at hB0 hB1
      obtain ⟨n, hn⟩ : ∃ n, cntN (l.take i) = n := ⟨_, rfl⟩
      rw [hn] at hB0 hB1 HTK ⊢
      have hr := hme.2.2.2
      have hwr : IntKind.u64.wrap e.rn = e.rn := by rw [IntKind.wrap_u64] <;> omega
      have hwn : IntKind.u64.wrap (n + e.rn) = n + e.rn := by rw [IntKind.wrap_u64] <;> omega
      have HBW := Lib.hid hbw
      clear he hme hn l0 l1 l2 l3 hB0 hB1 hr hbw
      unfold eC at HK
      obtain ⟨k0, k1, k2, k3⟩ := hcl
      by_cases h0 : ckN e = 0
      · rw [h0] at HK
        rw [if_pos h0] at HTK
        clear h0
        go_wp2_with fail
        refine (HK.out _).mono ?_
        rintro x w1 ⟨rfl, hb⟩
        obtain ⟨j0, j1, j2, j3⟩ := cells4 hb ⟨k0, k1, k2, k3⟩
        have hb1 := Lib.hid (HBW.out.trans (hb.mono HBW.out.size))
        clear hb k0 k1 k2 k3 HBW
        go_wp2_with fail
        go_roundw
        case rel => exact ⟨i + 1, by omega, by go_num, by rw [HTK.out], hb1.out⟩
        case measure => simp [intOf]; omega
      · obtain ⟨r, hr⟩ : ∃ r, ckN e = r := ⟨_, rfl⟩
        rw [if_neg h0, Int.add_zero] at HTK
        rw [hr] at HK h0
        have hne : (r == 0) = false := by simpa using h0
        clear h0 hr
        go_wp2_with fail
        refine (HK.out _).mono ?_
        rintro x w1 ⟨rfl, hb⟩
        have hb1 := Lib.hid (HBW.out.trans (hb.mono HBW.out.size))
        clear hb k0 k1 k2 k3 HBW
        go_wp2_with fail
        go_roundw
        case rel => exact ⟨i + 1, by omega, by go_num, by rw [HTK.out], hb1.out⟩
        case measure => simp [intOf]; omega
    · obtain rfl : i = l.length := by omega
      rw [List.take_length]
      go_wp2_with fail
      go_ret
      exact ⟨rfl, hbw⟩
set_option maxRecDepth 20000 in
set_option maxHeartbeats 1000000 in
theorem rendN_any (v : Value) (l : List En) (w : World) (hv : EnsAt w v l) (hm : MaysN l) (hl : l.length ≤ 100000) : Calls Try.prog 22 #[v] w fun x w' => x = .returned (.int .u64 (enN l)) ∧ Below w.heap.size w w' := by
  obtain ⟨al, cap, rfl, hcap, _, hc⟩ := hv
  have HC := Lib.hid hc
  have HM := Lib.hid hm
  clear hc hm
  go_enter Try.func22, Try.ntmps22
  go_wp2_with fail
  go_loopw [3, 4] (fun n s wr => ∃ i : Nat, i ≤ l.length ∧ s = .int .i64 i ∧ n = .int .u64 (enN (l.take i)) ∧ Below w.heap.size w wr) (fun _ s _ => l.length - (intOf s).toNat)
  case atStart => exact ⟨0, Nat.zero_le _, rfl, rfl, Below.refl _ _⟩
  case round =>
    obtain ⟨i, hi, rfl, rfl, hbw⟩ := hrel
    by_cases hlt : i < l.length
    · obtain ⟨e, he⟩ : ∃ t, l[i]? = some t := ⟨_, List.getElem?_eq_getElem hlt⟩
      obtain ⟨g, off, rfl, hg, l0, l1, l2, l3⟩ := HC.out i e he
      have hme := HM.out e (List.mem_of_getElem? he)
      have HK := Lib.hid (fun W => rcheckN_any e W hme)
      have HTK : Hid (enN (l.take (i + 1)) = if ckN e = 0 then max (enN (l.take i)) (e.off + e.ln) else enN (l.take i)) := Lib.hid (by rw [take_one l i e he, enN_snoc])
      have hi2 : (i : Int) < (l.length : Int) := by omega
      have hcl := keep1E (Below.refl _ _) ⟨cells4 hbw ⟨l0, l1, l2, l3⟩, hbw⟩
      obtain ⟨n, hn⟩ : ∃ n, enN (l.take i) = n := ⟨_, rfl⟩
      rw [hn] at HTK ⊢
      have HME := Lib.hid hme
      clear he hn hme l0 l1 l2 l3 hbw
      unfold eC at HK
      by_cases h0 : ckN e = 0
      · have hbd := ck_ok e h0
        have hr := HME.out
        unfold MayN at hr
        have hwl : IntKind.u64.wrap e.ln = e.ln := by rw [IntKind.wrap_u64] <;> omega
        have hwn : IntKind.u64.wrap (e.off + e.ln) = e.off + e.ln := by rw [IntKind.wrap_u64] <;> omega
        rw [h0] at HK
        rw [if_pos h0] at HTK
        clear h0 hbd hr
        have HCL := Lib.hid hcl
        obtain ⟨⟨k0, k1, k2, k3⟩, hbw⟩ := hcl
        clear hbw
        go_wp2_with fail
        refine (HK.out _).mono ?_
        rintro x w1 ⟨rfl, hb⟩
        have HS0 := keep1E (Below.drew (Below.refl _ _)) (keep1E hb HCL.out)
        clear hb k0 k1 k2 k3 HCL
        have j0 : (0 : Int) ≤ (i : Int) := by omega
        go_upto_region 6 with fail
        refine wp_region_held_drew (S := fun w' => (w'.cell? ⟨g, off + i * 4, none⟩ = some (.int .u64 e.id) ∧ w'.cell? ⟨g, off + i * 4 + 1, none⟩ = some (.int .u64 e.off) ∧ w'.cell? ⟨g, off + i * 4 + 2, none⟩ = some (.int .u32 e.ln) ∧ w'.cell? ⟨g, off + i * 4 + 3, none⟩ = some (.int .u32 e.rn)) ∧ Below w.heap.size w w') (by kernel_rfl) HS0 (fun hH0 => ?_)
        refine takeH (i := 0) (d := 17) (v := ?_) rfl rfl (by kernel_rfl) (by kernel_rfl) (by kernel_rfl) (fun _ _ _ h => h) (Or.inl ⟨by rfl, ?y0⟩) hH0 ?_
        case y0 => intro w hSw; go_simp; try with_reducible rfl
        try simp only [Act.put, List.setIfInBounds_toArray, List.set_cons_zero, List.set_cons_succ]
        refine takeH (i := 1) (d := 18) (v := ?_) rfl rfl (by kernel_rfl) (by kernel_rfl) (by kernel_rfl) (fun _ _ _ h => h) (Or.inl ⟨by rfl, ?y1⟩) hH0 ?_
        case y1 => intro w hSw; go_simp; try with_reducible rfl
        try simp only [Act.put, List.setIfInBounds_toArray, List.set_cons_zero, List.set_cons_succ]
        refine takeH (i := 2) (d := 19) (v := ?_) rfl rfl (by kernel_rfl) (by kernel_rfl) (by kernel_rfl) (fun _ _ _ h => h) (Or.inl ⟨by rfl, ?y2⟩) hH0 ?_
        case y2 => intro w hSw; go_simp; try with_reducible rfl
        try simp only [Act.put, List.setIfInBounds_toArray, List.set_cons_zero, List.set_cons_succ]
        refine takeH (i := 3) (d := 20) (v := ?_) rfl rfl (by kernel_rfl) (by kernel_rfl) (by kernel_rfl) (fun _ _ _ h => h) (Or.inl ⟨by rfl, ?y3⟩) hH0 ?_
        case y3 => intro w hSw; go_simp; try with_reducible rfl
        try simp only [Act.put, List.setIfInBounds_toArray, List.set_cons_zero, List.set_cons_succ]
        refine takeH (i := 4) (d := 21) (v := ?_) rfl rfl (by kernel_rfl) (by kernel_rfl) (by kernel_rfl) (fun _ _ _ h => h) (Or.inl ⟨by rfl, ?y4⟩) hH0 ?_
        case y4 => intro w hSw; go_simp; try with_reducible rfl
        try simp only [Act.put, List.setIfInBounds_toArray, List.set_cons_zero, List.set_cons_succ]
        refine takeH (i := 5) (d := 22) (v := ?_) rfl rfl (by kernel_rfl) (by kernel_rfl) (by kernel_rfl) (fun _ _ _ h => h) (Or.inl ⟨by rfl, ?y5⟩) hH0 ?_
        case y5 => intro w hSw; go_simp; try with_reducible rfl
        try simp only [Act.put, List.setIfInBounds_toArray, List.set_cons_zero, List.set_cons_succ]
        refine takeH (i := 6) (d := 23) (v := ?_) rfl rfl (by kernel_rfl) (by kernel_rfl) (by kernel_rfl) (fun _ _ _ h => h) (Or.inl ⟨by rfl, ?y6⟩) hH0 ?_
        case y6 => intro w hSw; go_simp; try with_reducible rfl
        try simp only [Act.put, List.setIfInBounds_toArray, List.set_cons_zero, List.set_cons_succ]
        refine takeH (i := 7) (d := 24) (v := ?_) rfl rfl (by kernel_rfl) (by kernel_rfl) (by kernel_rfl) (fun _ _ _ h => h) (Or.inl ⟨by rfl, ?y7⟩) hH0 ?_
        case y7 => intro w hSw; go_simp; try with_reducible rfl
        try simp only [Act.put, List.setIfInBounds_toArray, List.set_cons_zero, List.set_cons_succ]
        refine takeH (i := 8) (d := 25) (v := ?_) rfl rfl (by kernel_rfl) (by kernel_rfl) (by kernel_rfl) (fun _ _ _ h => h) (Or.inl ⟨by rfl, ?y8⟩) hH0 ?_
        case y8 => intro w hSw; go_simp; try with_reducible rfl
        try simp only [Act.put, List.setIfInBounds_toArray, List.set_cons_zero, List.set_cons_succ]
        refine takeH (i := 9) (d := 26) (v := ?_) rfl rfl (by kernel_rfl) (by kernel_rfl) (by kernel_rfl) (fun _ _ _ h => h) (Or.inl ⟨by rfl, ?y9⟩) hH0 ?_
        case y9 => intro w hSw; go_simp; try with_reducible rfl
        try simp only [Act.put, List.setIfInBounds_toArray, List.set_cons_zero, List.set_cons_succ]
        refine takeH (i := 10) (d := 27) (v := ?_) rfl rfl (by kernel_rfl) (by kernel_rfl) (by kernel_rfl) (fun _ _ _ h => h) (Or.inl ⟨by rfl, ?y10⟩) hH0 ?_
        case y10 => intro w hSw; go_simp; try with_reducible rfl
        try simp only [Act.put, List.setIfInBounds_toArray, List.set_cons_zero, List.set_cons_succ]
        refine takeH (i := 11) (d := 28) (v := ?_) rfl rfl (by kernel_rfl) (by kernel_rfl) (by kernel_rfl) (fun _ _ _ h => h) (Or.inl ⟨by rfl, ?y11⟩) hH0 ?_
        case y11 => intro w hSw; go_simp; try with_reducible rfl
        try simp only [Act.put, List.setIfInBounds_toArray, List.set_cons_zero, List.set_cons_succ]
        refine takeH (i := 12) (d := 29) (v := ?_) rfl rfl (by kernel_rfl) (by kernel_rfl) (by kernel_rfl) (fun _ _ _ h => h) (Or.inl ⟨by rfl, ?y12⟩) hH0 ?_
        case y12 => intro w hSw; go_simp; try with_reducible rfl
        try simp only [Act.put, List.setIfInBounds_toArray, List.set_cons_zero, List.set_cons_succ]
        refine takeH (i := 13) (d := 30) (v := ?_) rfl rfl (by kernel_rfl) (by kernel_rfl) (by kernel_rfl) (fun _ _ _ h => h) (Or.inl ⟨by rfl, ?y13⟩) hH0 ?_
        case y13 => intro w hSw; go_simp; try with_reducible rfl
        try simp only [Act.put, List.setIfInBounds_toArray, List.set_cons_zero, List.set_cons_succ]
        refine takeH (i := 14) (d := 3) (v := ?_) rfl rfl (by kernel_rfl) (by kernel_rfl) (by kernel_rfl) (fun _ _ _ h => h) (Or.inl ⟨by rfl, ?y14⟩) hH0 ?_
        case y14 => intro w hSw; go_simp; try with_reducible rfl
        try simp only [Act.put, List.setIfInBounds_toArray, List.set_cons_zero, List.set_cons_succ]
        refine wpAnyH_done (by kernel_rfl) ?_ _
        go_wp2_with fail
        go_roundw
        case rel => exact ⟨i + 1, by omega, by go_num, by rw [HTK.out, max_if], hH0.2⟩
        case measure => simp [intOf]; omega
      · obtain ⟨r, hr⟩ : ∃ r, ckN e = r := ⟨_, rfl⟩
        rw [if_neg h0] at HTK
        rw [hr] at HK h0
        have hne : (r == 0) = false := by simpa using h0
        clear h0 hr
        have HCL := Lib.hid hcl.2
        obtain ⟨⟨k0, k1, k2, k3⟩, hbw⟩ := hcl
        clear hbw
        go_wp2_with fail
        refine (HK.out _).mono ?_
        rintro x w1 ⟨rfl, hb⟩
        have hb1 := Lib.hid (HCL.out.trans (hb.mono HCL.out.size))
        clear hb k0 k1 k2 k3 HCL
        go_wp2_with fail
        go_roundw
        case rel => exact ⟨i + 1, by omega, by go_num, by rw [HTK.out], hb1.out⟩
        case measure => simp [intOf]; omega
    · obtain rfl : i = l.length := by omega
      rw [List.take_length]
      go_wp2_with fail
      go_ret
      exact ⟨rfl, hbw⟩
end Go.Proofs.Ytdgohnpkpijmbaa
