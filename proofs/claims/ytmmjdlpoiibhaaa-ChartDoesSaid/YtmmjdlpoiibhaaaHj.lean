/- slices.Insert ahead of the end: in place, and to a new row. -/
import Derived.Test.YtmmjdlpoiibhaaaHi
namespace Go.Proofs.Ytmmjdlpoiibhaaa
open Go.RowKit
set_option maxRecDepth 20000
set_option linter.unusedVariables false
set_option linter.unusedSimpArgs false
theorem hlt_of' {W : World} {b : Nat} {o : Obj} (h : W.heap[b]? = some o) : b < W.heap.size := (Array.getElem?_eq_some_iff.1 h).1
theorem ins_rows (cur A D T : List Value) (hA : cur.take (A.length + D.length) = A ++ D) (hT : T.length = 2) (hlen : A.length + D.length + 2 ≤ cur.length) :
    (splice (splice cur (A.length + 2) D) A.length T).take (A.length + D.length + 2) = A ++ (T ++ D) ∧ (splice (splice cur (A.length + 2) D) A.length T).length = cur.length := by
  have e1 : (splice cur (A.length + 2) D).length = cur.length := length_splice _ _ _ (by omega)
  refine ⟨?_, by rw [length_splice _ _ _ (by rw [e1, hT]; omega), e1]⟩
  have hA1 : cur.take A.length = A := by
    have := congrArg (List.take A.length) hA
    rw [List.take_take, Nat.min_eq_left (by omega), List.take_left] at this
    exact this
  have e2 : (splice cur (A.length + 2) D).take A.length = A := by
    unfold splice
    rw [List.take_append_of_le_length (by rw [List.length_take]; omega), List.take_take, Nat.min_eq_left (by omega), hA1]
  have e3 : (splice cur (A.length + 2) D).drop (A.length + T.length) = D ++ cur.drop (A.length + 2 + D.length) := by
    unfold splice
    have hl : (cur.take (A.length + 2)).length = A.length + T.length := by rw [List.length_take, hT]; omega
    rw [← hl, List.drop_left]
  have e4 : splice (splice cur (A.length + 2) D) A.length T = (A ++ (T ++ D)) ++ cur.drop (A.length + 2 + D.length) := by
    conv => lhs; unfold splice
    have e2' := e2
    have e3' := e3
    unfold splice at e2' e3'
    rw [e2', e3']
    simp
  rw [e4, List.take_append_of_le_length (by simp [hT]; omega)]
  exact List.take_of_length_le (by simp [hT]; omega)
theorem ins_rows2 (cur A D T : List Value) (hA : cur.take A.length = A) (hT : T.length = 2) (hlen : A.length + D.length + 2 ≤ cur.length) :
    (splice (splice cur A.length T) (A.length + 2) D).take (A.length + D.length + 2) = A ++ (T ++ D) ∧ (splice (splice cur A.length T) (A.length + 2) D).length = cur.length := by
  have e1 : (splice cur A.length T).length = cur.length := length_splice _ _ _ (by omega)
  refine ⟨?_, by rw [length_splice _ _ _ (by rw [e1]; omega), e1]⟩
  have e2 : splice cur A.length T = (A ++ T) ++ cur.drop (A.length + T.length) := by
    unfold splice
    rw [hA, List.append_assoc]
  have e3 : (splice cur A.length T).take (A.length + 2) = A ++ T := by
    rw [e2, List.take_append_of_le_length (by simp [hT])]
    exact List.take_of_length_le (by simp [hT])
  have e4 : splice (splice cur A.length T) (A.length + 2) D = (A ++ (T ++ D)) ++ (splice cur A.length T).drop (A.length + 2 + D.length) := by
    conv => lhs; unfold splice
    have e3' := e3
    unfold splice at e3' ⊢
    rw [e3']
    simp
  rw [e4, List.take_append_of_le_length (by simp [hT]; omega)]
  exact List.take_of_length_le (by simp [hT]; omega)
theorem flat_ins (l : List It) (i : Nat) (t : It) : flatI (insI l i t) = flatI (l.take i) ++ ([.int .u64 t.1, .string t.2] ++ flatI (l.drop i)) := by
  unfold insI
  rw [flatI_append]
  rfl
theorem insI_len (l : List It) (i : Nat) (t : It) (hi : i ≤ l.length) : (insI l i t).length = l.length + 1 := by
  unfold insI
  rw [List.length_append, List.length_cons, List.length_take, List.length_drop]
  omega
theorem flat_split (l : List It) (i : Nat) : flatI (l.take i) ++ flatI (l.drop i) = flatI l := by rw [← flatI_append, List.take_append_drop]
set_option maxHeartbeats 2000000 in
theorem ins_shift (l : List It) (t : It) (B vb g cap i : Nat) (w : World) (x : TypeId) (ho : OwnIt w B 52 (.slice (some ⟨g, 0, none⟩) l.length cap) l) (hv : w.heap[vb]? = some (.cells #[.int .u64 t.1, .string t.2] x (0, 0))) (hvb : vb ≠ g) (hi : i < l.length) (hroom : l.length + 1 ≤ cap) (hl : l.length ≤ 5000) :
    Calls Try.prog 37 #[.slice (some ⟨g, 0, none⟩) l.length cap, .int .i64 i, .slice (some ⟨vb, 0, none⟩) 1 1] w (InsEnd l i t B (.slice (some ⟨g, 0, none⟩) l.length cap) w) := by
  obtain ⟨hfl, h2⟩ := ho
  rcases h2 with ⟨e, _⟩ | ⟨g', cap', cur, e, hBg, hg, hle, hm, hcs, htake⟩
  · cases e
  cases e
  have hlA : (flatI (l.take i)).length = i * 2 := by rw [flatI_len, List.length_take]; omega
  have hlD : (flatI (l.drop i)).length = (l.length - i) * 2 := by rw [flatI_len, List.length_drop]
  have hcl : cur.toList.length = cap * 2 := by simpa using hcs
  obtain ⟨r1, r2⟩ := ins_rows cur.toList (flatI (l.take i)) (flatI (l.drop i)) [.int .u64 t.1, .string t.2] (by rw [hlA, hlD, flat_split, ← htake]; congr 1; omega) rfl (by rw [hlA, hlD, hcl]; omega)
  rw [← flat_ins] at r1
  rw [hlA, hlD] at r1
  rw [hlA] at r2
  rw [hcl] at r2
  have hmin1 : Nat.min (l.length + 1 - i) (l.length - i) = l.length - i := Nat.min_eq_right (by omega)
  have hmin2 : Nat.min 1 (l.length + 1 - i) = 1 := Nat.min_eq_left (by omega)
  have hcell : ∀ j u, (flatI (l.drop i))[j]? = some u → w.drew.cell? ((⟨g, i * 2, none⟩ : Addr).add j) = some u := by
    intro j u hj
    have hjl := (List.getElem?_eq_some_iff.1 hj).1
    have hadd : (⟨g, i * 2, none⟩ : Addr).add j = ⟨g, i * 2 + j, none⟩ := by simp [Addr.add]
    rw [hadd]
    show w.cell? ⟨g, i * 2 + j, none⟩ = some u
    have h3 : cur.toList[i * 2 + j]? = some u := by
      have h4 : (cur.toList.take (l.length * 2))[i * 2 + j]? = some u := by
        rw [htake, ← flat_split l i, List.getElem?_append_right (by omega), hlA, Nat.add_sub_cancel_left]
        exact hj
      rw [List.getElem?_take] at h4
      split at h4
      · exact h4
      · cases h4
    simp [World.cell?, hg]
    simpa using h3
  obtain ⟨w1, hr1, hg1, hk1⟩ := copy_run2 w.drew g (i * 2 + 2) (l.length - i) (cap - (i + 1)) ⟨g, i * 2, none⟩ (l.length + 1 - i) (cap - i) cur.toList 52 (flatI (l.drop i)) (by show w.heap[g]? = _; simpa using hg) (by rw [hmin1, hlD]) hcell (by rw [hlD, hcl]; omega) (flatI_one _)
  have hv1 : w1.heap[vb]? = some (.cells #[.int .u64 t.1, .string t.2] x (0, 0)) := by
    have hlt : vb < w.heap.size := hlt_of' hv
    rw [hk1.block vb hlt (fun e => hvb (Option.some.inj e))]
    exact hv
  obtain ⟨w2, hr2, hg2, hk2⟩ := copy_run2 w1 g (i * 2) (l.length + 1 - i) (cap - i) ⟨vb, 0, none⟩ 1 1 _ 52 [.int .u64 t.1, .string t.2] hg1 (by rw [hmin2]; rfl) (by
    intro j u hj
    match j, hj with
    | 0, hj => simp at hj; subst hj; simp [World.cell?, hv1, Addr.add]
    | 1, hj => simp at hj; subst hj; simp [World.cell?, hv1, Addr.add]
    | j + 2, hj => simp at hj) (by rw [length_splice _ _ _ (by rw [hlD, hcl]; omega), hcl]; simp; omega) (by intro u hu; simp at hu; rcases hu with rfl | rfl <;> rfl)
  have hkk : w.grownBy w2 (some g) := ((⟨rfl, rfl, rfl, Nat.le_refl _, fun k hk hne => rfl⟩ : w.grownBy w.drew (some g)).trans hk1).trans hk2
  have hll : (insI l i t).length = l.length + 1 := insI_len l i t (by omega)
  have hown : OwnIt w2 B 52 (.slice (some ⟨g, 0, none⟩) (l.length + 1) cap) (insI l i t) := by
    refine ⟨by rw [flatI_len], .inr ⟨g, cap, _, by rw [hll], hBg, hg2, by rw [hll]; exact hroom, hm, ?_, ?_⟩⟩
    · rw [List.size_toArray]; exact r2
    · rw [hll, ← r1]
      congr 1
      omega
  have HE : Hid (∀ e, e = Ending.returned (.slice (some ⟨g, 0, none⟩) (l.length + 1) cap) → InsEnd l i t B (.slice (some ⟨g, 0, none⟩) l.length cap) w e w2) := Lib.hid (fun e he => ⟨_, he, hown, hkk⟩)
  have hov : ∀ lb cb, (callFunc 52 #[.slice (some ⟨vb, 0, none⟩) 1 1, .slice (some ⟨g, (i + 1) * 2, none⟩) lb cb]).run Try.prog w = .ok (.value (.bool false)) w := fun lb cb => over_run w vb g _ lb cb hvb _ _ _ _ cur hv hg (by rw [hcs]; omega)
  rw [hmin1] at hr1
  rw [hmin2] at hr2
  clear hown hkk hk1 hk2 hg1 hg2 hv1 hcell r1 r2 htake hcs hcl hlA hlD hfl hmin1 hmin2 hll hg hv
  generalize l.length = n at *
  unfold maxLen at hm
  have a1 : (i : Int) ≤ (n : Int) := by omega
  have a2 : ((i : Int) == (n : Int)) = false := by rw [beq_eq_false_iff_ne]; omega
  have a3 : decide ((cap : Int) < (n : Int) + 1) = false := by rw [decide_eq_false_iff_not]; omega
  have a4 : ¬ (cap : Int) < (n : Int) + 1 := by omega
  have a5 : (n : Int) + 1 ≤ (cap : Int) := by omega
  have a6 : ¬ cap = i := by omega
  have a7 : ¬ cap = i + 1 := by omega
  have a8 : IntKind.i64.wrap ((n : Int) + 1) = (n : Int) + 1 := by rw [IntKind.wrap_i64]; omega
  have a9 : IntKind.i64.wrap ((i : Int) + 1) = (i : Int) + 1 := by rw [IntKind.wrap_i64]; omega
  have b1 : (i : Int) + 1 ≤ (n : Int) + 1 := by omega
  have b2 : ((i : Int) + 1).toNat = i + 1 := by omega
  have b4 : (0 : Int) ≤ (i : Int) + 1 := by omega
  have b5 : (i : Int) ≤ (n : Int) + 1 := by omega
  have b3 : ((n : Int) + 1).toNat = n + 1 := by omega
  go_enter Try.func37, Try.ntmps37
  go_wp2_with (simp only [hov])
  go_region_law (refine step_copy_known rfl (.tmp 73) (.tmp 76) 24 24 rfl (.slice (some ⟨g, i * 2 + 2, none⟩) (n - i) (cap - (i + 1))) (.slice (some ⟨g, i * 2, none⟩) (n + 1 - i) (cap - i)) (by simp [Act.eval, Act.put]; try omega) (by simp [Act.eval, Act.put]; try omega) (hr1 _) ?_)
  go_wp2_with (at_builtin; refine wpList_copy_known rfl _ _ 24 24 rfl _ _ rfl rfl (hr2 _) ?_)
  go_ret
  exact HE.out _ rfl
/-- The row that slices.Insert makes: what stood ahead, and zero items. -/
theorem zeros_row (w : World) (g n i : Nat) (l : List It) (h : ItsAt w (.slice (some ⟨g, 0, none⟩) n n) l) (hi : i < n) (hn : n ≤ 5000) :
    ∃ G W cur, (∀ ty, (Builtin.append_ #[24, 3] ty #[.slice (some ⟨g, 0, none⟩) i n, .int .i64 ((n : Int) + 1 - (i : Int))]).run Try.prog w = .ok (.slice (some ⟨w.heap.size, 0, none⟩) (n + 1) G) W) ∧ W.heap[w.heap.size]? = some (.cells (cur : List Value).toArray 52 (0, 0)) ∧ cur.take (i * 2) = flatI (l.take i) ∧ cur.length = G * 2 ∧ n + 1 ≤ G ∧ G ≤ maxLen ∧ Below w.heap.size w W := by
  have hl : l.length = n := by obtain ⟨_, _, e, _⟩ := h; cases e; rfl
  obtain ⟨i0, hi0, hz0, hz1, hz2⟩ := info_parts infoPit
  have hold := its_first (h.pre i (by omega)) w.drew (fun p => by simp)
  have hsum : i + (n + 1 - i) = n + 1 := by omega
  have hr := fun ty => Go.Lib.run_append_grow_zeros (P := Try.prog) w 24 3 ty 52 i0 _ .i64 .i64 Try.underlying24 Try.underlying3 hi0 hz0 (some ⟨g, 0, none⟩) i n (flatI (l.take i)) (by rw [hz1]; exact hold) (n + 1 - i) (by omega) (by omega) (by omega) (by omega) (by rw [hz2]; omega) (growslice_fits (by omega) (by rw [hz2]; omega))
  rw [hsum] at hr
  have hge := grownCap_ge w (n + 1) n 52
  have hle := grownCap_le_maxLen w (n + 1) n 52 (by unfold maxLen; omega)
  have hcast : ((n : Int) + 1 - (i : Int)) = ((n + 1 - i : Nat) : Int) := by omega
  refine ⟨grownCap w (n + 1) n 52, _, ((flatI (l.take i)).toArray ++ Builtin.zeroCells (Value.agg #[.int .u64 0, .string { data := #[] }]).cells (n + 1 - i) ++ Builtin.zeroCells (Value.agg #[.int .u64 0, .string { data := #[] }]).cells (grownCap w (n + 1) n 52 - (n + 1))).toList, fun ty => by rw [hcast]; exact hr ty, ?_, ?_, ?_, hge, hle, ((Below.refl w.heap.size w).drew).alloc (Nat.le_refl _) _⟩
  · rw [Array.toArray_toList]; exact heap_new w.drew _
  · have e1 : (flatI (l.take i)).length = i * 2 := by rw [flatI_len, List.length_take]; omega
    simp only [Array.toList_append, List.append_assoc]
    rw [List.take_append_of_le_length (by simp [e1]), List.take_of_length_le (by simp [e1])]
  · have e1 : (flatI (l.take i)).length = i * 2 := by rw [flatI_len, List.length_take]; omega
    rw [Array.length_toList]
    simp only [Array.size_append, size_zeroCells]
    generalize grownCap w (n + 1) n 52 = G at *
    have e2 : (flatI (l.take i)).toArray.size = i * 2 := by simp [e1]
    rw [e2]
    show i * 2 + (n + 1 - i) * 2 + (G - (n + 1)) * 2 = G * 2
    omega
set_option maxHeartbeats 2000000 in
theorem ins_grow (l : List It) (t : It) (B vb g i : Nat) (w : World) (x : TypeId) (ho : ItsAt w (.slice (some ⟨g, 0, none⟩) l.length l.length) l) (hv : w.heap[vb]? = some (.cells #[.int .u64 t.1, .string t.2] x (0, 0))) (hi : i < l.length) (hl : l.length ≤ 5000) (hB : B ≤ w.heap.size) :
    Calls Try.prog 37 #[.slice (some ⟨g, 0, none⟩) l.length l.length, .int .i64 i, .slice (some ⟨vb, 0, none⟩) 1 1] w (InsEnd l i t B (.slice (some ⟨g, 0, none⟩) l.length l.length) w) := by
  obtain ⟨G, w1, cur, hr0, hg0, hc0, hcl, hG1, hG2, hb1⟩ := zeros_row w g l.length i l ho hi hl
  have hlA : (flatI (l.take i)).length = i * 2 := by rw [flatI_len, List.length_take]; omega
  have hlD : (flatI (l.drop i)).length = (l.length - i) * 2 := by rw [flatI_len, List.length_drop]
  obtain ⟨r1, r2⟩ := ins_rows2 cur (flatI (l.take i)) (flatI (l.drop i)) [.int .u64 t.1, .string t.2] (by rw [hlA, hc0]) rfl (by rw [hlA, hlD, hcl]; omega)
  rw [← flat_ins] at r1
  rw [hlA, hlD] at r1
  rw [hlA] at r2
  rw [hcl] at r2
  have hmin1 : Nat.min (l.length - i) (l.length - i) = l.length - i := Nat.min_self _
  have hmin2 : Nat.min 1 (l.length + 1 - i) = 1 := Nat.min_eq_left (by omega)
  have hvl := hlt_of' hv
  have hv1 : w1.heap[vb]? = some (.cells #[.int .u64 t.1, .string t.2] x (0, 0)) := (hb1.block vb hvl).trans hv
  obtain ⟨w2, hr1, hg1, hk1⟩ := copy_run2 w1 w.heap.size (i * 2) (l.length + 1 - i) (G - i) ⟨vb, 0, none⟩ 1 1 cur 52 [.int .u64 t.1, .string t.2] hg0 (by rw [hmin2]; rfl) (by
    intro j u hj
    match j, hj with
    | 0, hj => simp at hj; subst hj; simp [World.cell?, hv1, Addr.add]
    | 1, hj => simp at hj; subst hj; simp [World.cell?, hv1, Addr.add]
    | j + 2, hj => simp at hj) (by rw [hcl]; simp; omega) (by intro u hu; simp at hu; rcases hu with rfl | rfl <;> rfl)
  have hb2 : Below w.heap.size w w2 := hb1.grown hk1 hb1.size (fun k hk => by cases hk; exact Nat.le_refl _)
  have hcell : ∀ j u, (flatI (l.drop i))[j]? = some u → w2.drew.cell? ((⟨g, i * 2, none⟩ : Addr).add j) = some u := by
    intro j u hj
    have h3 := its_cells (ho.post i (by omega)) j u hj
    rw [Nat.zero_add] at h3
    have h4 := vcell_later hb2 h3
    simpa using h4
  obtain ⟨w3, hr2, hg2, hk2⟩ := copy_run2 w2.drew w.heap.size (i * 2 + 2) (l.length - i) (G - (i + 1)) ⟨g, i * 2, none⟩ (l.length - i) (l.length - i) (splice cur (i * 2) [.int .u64 t.1, .string t.2]) 52 (flatI (l.drop i)) (by show w2.heap[w.heap.size]? = _; exact hg1) (by rw [hmin1, hlD]) hcell (by rw [length_splice _ _ _ (by rw [hcl]; simp; omega), hlD, hcl]; omega) (flatI_one _)
  have hb3 : Below w.heap.size w w3 := hb2.drew.grown hk2 hb2.size (fun k hk => by cases hk; exact Nat.le_refl _)
  have hll : (insI l i t).length = l.length + 1 := insI_len l i t (by omega)
  have hown : OwnIt w3 B 52 (.slice (some ⟨w.heap.size, 0, none⟩) (l.length + 1) G) (insI l i t) := by
    refine ⟨by rw [flatI_len], .inr ⟨w.heap.size, G, _, by rw [hll], hB, hg2, by rw [hll]; exact hG1, hG2, ?_, ?_⟩⟩
    · rw [List.size_toArray]; exact r2
    · rw [hll, ← r1]
      congr 1
      omega
  have hkk : w.grownBy w3 (some g) := ⟨hb3.os, hb3.tape, hb3.output, hb3.size, fun k hk _ => hb3.block k hk⟩
  have HE : Hid (∀ e, e = Ending.returned (.slice (some ⟨w.heap.size, 0, none⟩) (l.length + 1) G) → InsEnd l i t B (.slice (some ⟨g, 0, none⟩) l.length l.length) w e w3) := Lib.hid (fun e he => ⟨_, he, hown, hkk⟩)
  rw [hmin2] at hr1
  rw [hmin1] at hr2
  generalize hB0 : w.heap.size = N0 at *
  clear hown hkk hk1 hk2 hg1 hg2 hv1 hcell r1 r2 hcl hlA hlD hmin1 hmin2 hll hg0 hc0 hv ho hb1 hb2 hb3 hvl hB hB0
  generalize l.length = n at *
  unfold maxLen at hG2
  have a1 : (i : Int) ≤ (n : Int) := by omega
  have a2 : ((i : Int) == (n : Int)) = false := by rw [beq_eq_false_iff_ne]; omega
  have a3 : decide ((n : Int) < (n : Int) + 1) = true := by rw [decide_eq_true_iff]; omega
  have a5 : (i : Int) ≤ (n : Int) + 1 := by omega
  have a6 : ¬ n = i := by omega
  have a7 : ¬ G = i := by omega
  have a8 : IntKind.i64.wrap ((n : Int) + 1) = (n : Int) + 1 := by rw [IntKind.wrap_i64]; omega
  have a9 : IntKind.i64.wrap ((i : Int) + 1) = (i : Int) + 1 := by rw [IntKind.wrap_i64]; omega
  have a10 : IntKind.i64.wrap ((n : Int) + 1 - (i : Int)) = (n : Int) + 1 - (i : Int) := by rw [IntKind.wrap_i64]; omega
  have b1 : (i : Int) + 1 ≤ (n : Int) + 1 := by omega
  have b2 : ((i : Int) + 1).toNat = i + 1 := by omega
  have b4 : (0 : Int) ≤ (i : Int) + 1 := by omega
  have b6 : ¬ G = i + 1 := by omega
  go_enter Try.func37, Try.ntmps37
  go_wp2_with (first
    | (at_builtin; refine Lib.wpList_append_run _ rfl _ _ _ _ rfl _ _ rfl rfl _ _ (hr0 _) ?_)
    | (at_builtin; refine wpList_copy_known rfl _ _ 24 24 rfl _ _ rfl rfl (hr1 _) ?_))
  go_region_law (refine step_copy_known rfl (.tmp 50) (.tmp 53) 24 24 rfl (.slice (some ⟨N0, i * 2 + 2, none⟩) (n - i) (G - (i + 1))) (.slice (some ⟨g, i * 2, none⟩) (n - i) (n - i)) (by simp [Act.eval, Act.put]; try omega) (by simp [Act.eval, Act.put]; try omega) (hr2 _) ?_)
  go_wp2_with fail
  go_ret
  exact HE.out _ rfl
theorem insert_any (s : Value) (l : List It) (t : It) (B vb i : Nat) (w : World) (x : TypeId) (ho : OwnIt w B 52 s l) (hv : w.heap[vb]? = some (.cells #[.int .u64 t.1, .string t.2] x (0, 0))) (hvb : s.ownBlock ≠ some vb) (hi : i ≤ l.length) (hl : l.length ≤ 5000) (hB : B ≤ w.heap.size) :
    Calls Try.prog 37 #[s, .int .i64 i, .slice (some ⟨vb, 0, none⟩) 1 1] w (InsEnd l i t B s w) := by
  have hx : ItsAt w (.slice (some ⟨vb, 0, none⟩) 1 1) [t] := by
    refine ⟨_, 1, rfl, Nat.le_refl _, by unfold maxLen; omega, fun k u hu => ⟨vb, 0, rfl, hlt_of' hv, ?_⟩⟩
    match k, hu with
    | 0, hu => simp only [List.getElem?_cons_zero, Option.some.injEq] at hu; subst hu; exact ⟨by simp [World.cell?, hv], by simp [World.cell?, hv]⟩
    | k + 1, hu => simp at hu
  by_cases he : i = l.length
  · subst he
    exact ins_end s l t B vb w ho hx hl hB
  · rcases ho.form with ⟨rfl, rfl⟩ | ⟨g, cap, rfl, _, _, hle, hm, _⟩
    · exact absurd (Nat.le_antisymm hi (Nat.zero_le _)) he
    · by_cases hr : l.length + 1 ≤ cap
      · exact ins_shift l t B vb g cap i w x ho hv (fun e => hvb (by rw [e]; rfl)) (by omega) hr hl
      · obtain rfl : cap = l.length := by omega
        exact ins_grow l t B vb g i w x ho.itsAt hv (by omega) hl hB
end Go.Proofs.Ytmmjdlpoiibhaaa
