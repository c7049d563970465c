/- The contract of slices.DeleteFunc with the program's isEmpty, over a row of the call's own. -/
import Derived.Test.YthlekifagidijaaDoorPt
import Derived.Test.YthlekifagidijaaDoorPc
import Derived.Laws.IdiomCopy
import Derived.Lib.SliceRun
namespace Go.Proofs.YthlekifagidijaaDoor
open Go.RowKit
set_option linter.unusedVariables false
set_option linter.unusedSimpArgs false
theorem flat2_set (M : List (Int × Int)) (k : Nat) (t : Int × Int) : ((flat2 M).set (k * 2) (.int .u64 t.1)).set (k * 2 + 1) (.int .u64 t.2) = flat2 (M.set k t) := by
  induction M generalizing k with
  | nil => rfl
  | cons u M ih =>
    cases k with
    | zero => rfl
    | succ k =>
      rw [show (k + 1) * 2 + 1 = k * 2 + 1 + 1 + 1 from by omega, show (k + 1) * 2 = k * 2 + 1 + 1 from by omega]
      simp only [flat2, List.set_cons_succ, ih]
theorem ones_zero (n : Nat) : ∀ v ∈ (Builtin.zeroCells #[.int .u64 0, .int .u64 0] n).toList, v.oneCell' = true := by
  intro v hv
  rw [Array.mem_toList_iff] at hv
  obtain ⟨i, hi, rfl⟩ := Array.mem_iff_getElem.1 hv
  simp only [Builtin.zeroCells, Array.getElem_map, Array.getElem_range] at hi ⊢
  generalize i % (#[Value.int .u64 0, Value.int .u64 0] : Array Value).size = r
  match r with
  | 0 => rfl
  | 1 => rfl
  | r + 2 => rfl
/-- clear, run over a row's end. -/
theorem run_clear2 (W : World) (g o n c : Nat) (hn : 0 < n) (hc : ∀ j, j < n * 2 → (W.cell? ⟨g, o + j, none⟩).isSome = true) (hf : ∀ j, j < n * 2 → W.frozen? ⟨g, o + j, none⟩ = false) (ty : TypeId) :
    (Builtin.clear_ #[35] ty #[.slice (some ⟨g, o, none⟩) n c]).run Tryd.prog W = .ok (.tuple #[]) (W.setCells g o (Builtin.zeroCells #[.int .u64 0, .int .u64 0] n).toList) := by
  have hlen : (Builtin.zeroCells #[.int .u64 0, .int .u64 0] n).toList.length = n * 2 := by rw [Array.length_toList, size_zeroCells]; rfl
  have hst := run_storeCells_cells (P := Tryd.prog) g o (Builtin.zeroCells #[.int .u64 0, .int .u64 0] n).toList 0 W (by rw [hlen]; simpa using hc) (by rw [hlen]; simpa using hf) (ones_zero n)
  simp only [Nat.add_zero] at hst
  obtain ⟨m, rfl⟩ : ∃ m, n = m + 1 := ⟨n - 1, by omega⟩
  have ht := Tryd.underlying35
  have hv := Tryd.zeroValue54
  have hz : (Value.agg #[.int .u64 0, .int .u64 0]).cells = #[.int .u64 0, .int .u64 0] := by kernel_rfl
  simp [Builtin.clear_, run_underlying ht, hv, hz, hst]
/-- A row that is cut. -/
theorem OwnS.cut {W : World} {B : Nat} {g cap n k : Nat} {M : List (Int × Int)} (h : OwnS W B 54 (.slice (some ⟨g, 0, none⟩) n cap) M) (hn : M.length = n) (hk : k ≤ n) : OwnS W B 54 (.slice (some ⟨g, 0, none⟩) k cap) (M.take k) := by
  obtain ⟨h1, h2⟩ := h
  rcases h2 with ⟨h2, _⟩ | ⟨g', cap', cur, hv, hg, hh, hle, hm, hs, ht⟩
  · cases h2
  · injection hv with e1 e2 e3
    injection e1 with e1
    injection e1 with e1
    subst e1 e3
    have hl : (M.take k).length = k := by rw [List.length_take]; omega
    refine ⟨by rw [flat2_len], .inr ⟨g, cap, cur, by rw [hl], hg, hh, by omega, hm, hs, ?_⟩⟩
    rw [hl, flat2_take, ← ht, List.take_take, hn]
    congr 1
    omega
theorem set_past (W : World) (B g cap k : Nat) (M : List (Int × Int)) (hk : M.length = k) (h : OwnS W B 54 (.slice (some ⟨g, 0, none⟩) k cap) M) (vs : List Value) (o : Nat) (ho : k * 2 ≤ o) :
    OwnS (W.setCells g o vs) B 54 (.slice (some ⟨g, 0, none⟩) k cap) M ∧ W.grownBy (W.setCells g o vs) (some g) := by
  induction vs generalizing W o with
  | nil => exact ⟨h, World.grownBy.refl _ _⟩
  | cons u vs ih =>
    have h2 := h
    unfold OwnS at h2
    rw [hk] at h2
    have h3 := World.ownsRow.stored h2 o u
    rw [List.set_eq_of_length_le (by rw [flat2_len]; omega)] at h3
    have h4 : OwnS (W.setCell ⟨g, o, none⟩ u) B 54 (.slice (some ⟨g, 0, none⟩) k cap) M := owns_conv h3.1 hk.symm rfl
    obtain ⟨i1, i2⟩ := ih _ h4 (o + 1) (by omega)
    exact ⟨i1, h3.2.trans i2⟩
def keepB (s : Int × Int) : Bool := !decide (s.2 < s.1)
def DelEnd (B : Nat) (l : List (Int × Int)) (w : World) (e : Ending) (w' : World) : Prop := ∃ v, e = .returned v ∧ OwnS w' B 54 v (l.filter keepB) ∧ Below B w w'
/-- How far the row has come: k kept of the first j. -/
def Moving (l M : List (Int × Int)) (k j : Nat) : Prop := k < j ∧ j ≤ l.length ∧ M.length = l.length ∧ M.drop j = l.drop j ∧ M.take k = (l.take j).filter keepB
theorem moving_start (l : List (Int × Int)) (i : Nat) (hi : i < l.length) (h : ∀ s ∈ l.take i, decide (s.2 < s.1) = false) (s : Int × Int) (hs : l[i]? = some s) (hp : decide (s.2 < s.1) = true) : Moving l l i (i + 1) := by
  refine ⟨by omega, by omega, rfl, rfl, ?_⟩
  rw [List.take_add_one, hs, List.filter_append]
  have e1 : (l.take i).filter keepB = l.take i := List.filter_eq_self.2 (fun a ha => by unfold keepB; rw [h a ha]; rfl)
  rw [e1]
  unfold keepB
  simp [hp]
theorem moving_at {l M : List (Int × Int)} {k j : Nat} (h : Moving l M k j) (hj : j < l.length) (t : Int × Int) (ht : l[j]? = some t) : M[j]? = some t := by
  have := congrArg (fun x => x[0]?) h.2.2.2.1
  simpa [List.getElem?_drop, ht] using this
theorem moving_off {l M : List (Int × Int)} {k j : Nat} (h : Moving l M k j) (t : Int × Int) (ht : l[j]? = some t) (hp : decide (t.2 < t.1) = true) : Moving l M k (j + 1) := by
  obtain ⟨h1, h2, h3, h4, h5⟩ := h
  have hj : j < l.length := (List.getElem?_eq_some_iff.1 ht).1
  refine ⟨by omega, by omega, h3, ?_, ?_⟩
  · rw [← List.drop_drop, ← List.drop_drop (l := l), h4]
  · rw [List.take_add_one, ht, List.filter_append, h5]
    unfold keepB
    simp [hp]
theorem moving_on {l M : List (Int × Int)} {k j : Nat} (h : Moving l M k j) (t : Int × Int) (ht : l[j]? = some t) (hp : decide (t.2 < t.1) = false) : Moving l (M.set k t) (k + 1) (j + 1) := by
  obtain ⟨h1, h2, h3, h4, h5⟩ := h
  have hj : j < l.length := (List.getElem?_eq_some_iff.1 ht).1
  refine ⟨by omega, by omega, by simpa using h3, ?_, ?_⟩
  · rw [List.drop_set_of_lt (by omega), ← List.drop_drop, ← List.drop_drop (l := l), h4]
  · rw [List.take_add_one, List.take_set_of_le (by omega), List.getElem?_set_self (by omega), List.take_add_one, ht, List.filter_append, h5]
    unfold keepB
    simp [hp]
set_option maxHeartbeats 2000000 in
set_option maxRecDepth 20000 in
theorem delete_any (B : Nat) (v : Value) (l : List (Int × Int)) (w : World) (hown : OwnS w B 54 v l) (hl : l.length ≤ 100000) (hB : B ≤ w.heap.size) : Calls Tryd.prog 37 #[v, .func (.func 39) #[] #[]] w (DelEnd B l w) := by
  have HI := Lib.hid (idx_empty v l w hown.spansAt hl)
  rcases hown.form with ⟨rfl, rfl⟩ | ⟨g, cap, rfl, hg, hgw, hle, hm, hc, hf⟩
  · go_enter Tryd.func37, Tryd.ntmps37
    go_wp2_with fail
    refine HI.out.mono ?_
    rintro e w1 ⟨r, rfl, hr, hb⟩
    obtain rfl : r = -1 := by
      rcases hr with ⟨h, _⟩ | ⟨i, _, hi, _⟩
      · exact h
      · simp at hi
    clear hr
    go_wp2_with fail
    go_ret
    exact ⟨_, rfl, ownS_nil _ _ _, hb.mono hB⟩
  · have HO := Lib.hid hown
    clear hown hc hf
    go_enter Tryd.func37, Tryd.ntmps37
    go_wp2_with fail
    refine HI.out.mono ?_
    rintro e w1 ⟨r, rfl, hr, hb⟩
    have HO1 := Lib.hid (HO.out.below hb)
    have hb1 : Below B w w1 := hb.mono hB
    clear hb
    rcases hr with ⟨rfl, hall⟩ | ⟨i, rfl, hi, htk, s, hs, hp⟩
    · have HA := Lib.hid hall
      clear hall
      go_wp2_with fail
      go_ret
      refine ⟨_, rfl, ?_, hb1⟩
      rw [List.filter_eq_self.2 (fun a ha => by unfold keepB; rw [HA.out a ha]; rfl)]
      exact HO1.out
    · have HM := Lib.hid (moving_start l i hi htk s hs hp)
      clear htk hs hp
      have hne : (((i : Nat) : Int) == -1) = false := by rw [beq_eq_false_iff_ne]; omega
      go_wp2_with fail
      go_loopw [5, 6] (fun k j wr => ∃ (kk jj : Nat) (M : List (Int × Int)), k = .int .i64 kk ∧ j = .int .i64 jj ∧ Hid (Moving l M kk jj) ∧ Hid (OwnS wr B 54 (.slice (some ⟨g, 0, none⟩) l.length cap) M) ∧ Below B w wr) (fun _ j _ => l.length - (intOf j).toNat)
      case atStart => exact ⟨i, i + 1, l, rfl, by go_num, HM, HO1, hb1⟩
      case round =>
        clear HM HO1 hb1
        obtain ⟨k, j, M, rfl, rfl, HM, HO, hbw⟩ := hrel
        obtain ⟨m1, m2, m3, _, m5⟩ := HM.out
        have hsz := HO.out.lt g rfl
        rcases HO.out.form with ⟨h0, _⟩ | ⟨g2, cap2, hv, _, _, _, _, hc, hf⟩
        · cases h0
        injection hv with hv1 hv2 hv3
        injection hv1 with hv1
        injection hv1 with hv1
        subst hv1
        clear hv2 hv3
        by_cases hlt : j < l.length
        · obtain ⟨t, ht⟩ : ∃ t, l[j]? = some t := ⟨_, List.getElem?_eq_getElem hlt⟩
          have hmt := moving_at HM.out hlt t ht
          obtain ⟨tk, htk⟩ : ∃ tk, M[k]? = some tk := ⟨_, List.getElem?_eq_getElem (by omega)⟩
          obtain ⟨f0, f1⟩ := flat2_at M j t hmt
          obtain ⟨f2, f3⟩ := flat2_at M k tk htk
          have l0 := (hc (j * 2) (by omega)).trans f0
          have l1 := (hc (j * 2 + 1) (by omega)).trans f1
          have HT := Lib.hid ht
          have HF := Lib.hid (And.intro f2 f3)
          have hj2 : (j : Int) < (l.length : Int) := by omega
          have hk2 : (k : Int) < (l.length : Int) := by omega
          have HS := Lib.hid (flat2_set M k t)
          clear ht hmt htk f0 f1 f2 f3 hc hf m5
          obtain ⟨p, q⟩ := t
          dsimp only at l0 l1
          have he := fun w => empty_any p q w
          by_cases hpq : q < p
          · rw [decide_eq_true hpq] at he
            have HE := Lib.hid he
            clear he
            have HN := Lib.hid (moving_off HM.out (p, q) HT.out (decide_eq_true hpq))
            go_wp2_with fail
            refine (HE.out _).mono ?_
            rintro e w5 ⟨rfl, hb⟩
            obtain ⟨c0, c1, hs5, hb5⟩ := kept2 hb
            have HO5 := Lib.hid (HO.out.below hb5)
            have hbw5 := hbw.trans (hb5.mono (by omega))
            clear hb hb5 hbw l0 l1 HE
            go_wp2_with fail
            go_roundw
            case rel => exact ⟨k, j + 1, M, rfl, by go_num, HN, HO5, hbw5⟩
            case measure => simp [intOf]; omega
          · rw [decide_eq_false hpq] at he
            have HE := Lib.hid he
            clear he
            have HN := Lib.hid (moving_on HM.out (p, q) HT.out (decide_eq_false hpq))
            go_wp2_with fail
            refine (HE.out _).mono ?_
            rintro e w5 ⟨rfl, hb⟩
            obtain ⟨c0, c1, hs5, hb5⟩ := kept2 hb
            have HO5 := HO.out.below hb5
            have hbw5 := hbw.trans (hb5.mono (by omega))
            have HOW : w5.ownsRow B 54 2 (.slice (some ⟨g, 0, none⟩) l.length cap) l.length (flat2 M) := by
              have := HO5
              unfold OwnS at this
              rwa [m3] at this
            have d0 := (World.ownsRow.cellAt HOW (k * 2) (by omega)).trans HF.out.1
            have d1 := (World.ownsRow.cellAt HOW (k * 2 + 1) (by omega)).trans HF.out.2
            have f := World.ownsRow.frozenAt HOW
            have HOWN := Lib.hid HOW
            clear hb hb5 hbw l0 l1 HE HO5 HOW
            go_wp2_with fail
            go_roundw
            case rel =>
              have q1 := (World.ownsRow.stored HOWN.out (k * 2) (.int .u64 p)).1
              have q2 := (World.ownsRow.stored q1 (k * 2 + 1) (.int .u64 q)).1
              rw [show ((flat2 M).set (k * 2) (.int .u64 p)).set (k * 2 + 1) (.int .u64 q) = flat2 (M.set k (p, q)) from HS.out] at q2
              exact ⟨k + 1, j + 1, M.set k (p, q), by go_num, by go_num, HN, Lib.hid (owns_conv q2 (by simp [m3]) rfl), (hbw5.setCell (p := ⟨g, k * 2, none⟩) hg _).setCell (p := ⟨g, k * 2 + 1, none⟩) hg _⟩
            case measure => simp [intOf]; omega
        · obtain rfl : j = l.length := by omega
          rw [List.take_length] at m5
          have hcut := OwnS.cut HO.out m3 (show k ≤ l.length by omega)
          have hlen : (M.take k).length = k := by rw [List.length_take]; omega
          obtain ⟨z1, z2⟩ := set_past _ B g cap k (M.take k) hlen hcut (Builtin.zeroCells #[.int .u64 0, .int .u64 0] (l.length - k)).toList (k * 2) (Nat.le_refl _)
          rw [m5] at z1
          have hcl := run_clear2 wr g (k * 2) (l.length - k) (cap - k) (by omega) (fun t ht => by
            rw [hc (k * 2 + t) (by omega)]
            have : k * 2 + t < (flat2 M).length := by rw [flat2_len]; omega
            rw [List.getElem?_eq_getElem this]; rfl) (fun t ht => hf _)
          have HZ := Lib.hid z1
          have hbz := hbw.grown z2 (Nat.le_trans hB hbw.size) (fun k hk => by injection hk with hk; omega)
          have hk2 : (k : Int) < (l.length : Int) := by omega
          clear hc hf m5 hcut z1 z2 hlen
          go_wp2_with fail
          go_ret
          exact ⟨_, rfl, HZ.out, hbz⟩
end Go.Proofs.YthlekifagidijaaDoor
