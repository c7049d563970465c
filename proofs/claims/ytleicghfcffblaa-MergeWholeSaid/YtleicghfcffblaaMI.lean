/- Several texts, one behind the other: Hi, Hj, Hk. -/
import Derived.Test.YtleicghfcffblaaHf
import Derived.Lib.Overlaps
import Derived.Laws.Externs
import Derived.Laws.CopyOwn
/- slices.Insert of one item into a row of one's own. -/
namespace Go.Proofs.Ytleicghfcffblaa
open Go.RowKit
set_option maxRecDepth 20000
set_option linter.unusedVariables false
set_option linter.unusedSimpArgs false
/-- A copy within a row, or to it, of items. -/
theorem copy_run2 (W : World) (g o dLen dCap : Nat) (a : Addr) (sLen sCap : Nat) (cur : List Value) (T : TypeId) (cs : List Value) (hg : W.heap[g]? = some (.cells cur.toArray T (0, 0))) (hn : cs.length = Nat.min sLen dLen * 2)
    (hsrc : ∀ j v, cs[j]? = some v → W.cell? (a.add j) = some v) (hfit : o + cs.length ≤ cur.length) (h1 : ∀ v ∈ cs, v.oneCell' = true) :
    ∃ W', (∀ ty, (Builtin.copy_ #[25, 25] ty #[.slice (some ⟨g, o, none⟩) dLen dCap, .slice (some a) sLen sCap]).run Try.prog W = .ok (goInt (Nat.min sLen dLen)) W') ∧ W'.heap[g]? = some (.cells (splice cur o cs).toArray T (0, 0)) ∧ W.grownBy W' (some g) := by
  have hl := run_loadCells_list (P := Try.prog) W a cs hsrc
  have hst := run_storeCells_at Try.prog g o T cs 0 cur.toArray W hg (by simpa using hfit) h1
  obtain ⟨i0, hi, hz0, hz1, hz2⟩ := info_parts infoPit
  have hu := Try.underlying25
  refine ⟨W.setRow g (cur.take o ++ (cs ++ cur.drop (o + cs.length))).toArray, fun ty => ?_, ?_, ?_⟩
  · have hn' : Nat.min sLen dLen * 2 = cs.length := hn.symm
    simp only [Nat.add_zero] at hst
    rw [show cur.take o ++ (cs ++ cur.drop (o + cs.length)) = cur.toArray.toList.take o ++ cs ++ cur.toArray.toList.drop (o + cs.length) by simp]
    simp [Builtin.copy_, run_underlying hu, Builtin.lenOf, Builtin.firstCells, sizeOf, typeInfo, hi, hz1, hn', hl, hst]
  · exact setRow_heap W g _ _ T _ hg
  · exact ⟨rfl, rfl, rfl, by simp [World.setRow], fun k hk hne => setRow_other W g k _ (fun e => hne (by rw [e]))⟩
theorem size_item (w : World) : (sizeOf 58).run Try.prog w = .ok 2 w := by
  obtain ⟨i0, hi, hz0, hz1, hz2⟩ := info_parts infoPit
  simp [sizeOf, typeInfo, hi, hz1]
/-- The run of slices.overlaps at two slices in two blocks. -/
theorem over_run (w : World) (vb b oB lb cb : Nat) (hvb : vb ≠ b) (x y : Value) (tA tB : TypeId) (cur : Array Value) (hA : w.heap[vb]? = some (.cells #[x, y] tA (0, 0))) (hB : w.heap[b]? = some (.cells cur tB (0, 0))) (hc : cur.size ≠ 0) :
    (callFunc 73 #[.slice (some ⟨vb, 0, none⟩) 1 1, .slice (some ⟨b, oB, none⟩) lb cb]).run Try.prog w = .ok (.value (.bool false)) w := by
  rw [run_callFunc_extern Try.func73 (by kernel_rfl) (by kernel_rfl) (by kernel_rfl) (e := Extern.SlicesOverlaps.overlaps #[25, 25] #[4]) (by kernel_rfl),
    Lib.run_overlaps_apart w 25 4 58 Try.underlying25 2 size_item ⟨vb, 0, none⟩ ⟨b, oB, none⟩ 1 1 lb cb hvb tA tB 2 cur.size (by simp [World.shape?, hA]) (by simp [World.shape?, hB]) hc (by simp [World.frozen?, hA]) (by simp [World.frozen?, hA])]
  rfl
theorem wpList_copy_known {w : World} {ops : Array Oper} {rest : List Oper} {o : Oper} {a : Act} {Q : Exit → Act → World → Prop} (hgd : o.guard = none) (d s : Operand) (t t' : TypeId)
    (ho : o.op = .call { callee := .builtin .copy, args := #[d, s], argTypes := #[t, t'] }) (v u : Value) (hd : a.eval d = v) (hs : a.eval s = u) {v' : Value} {w' : World}
    (hr : (Builtin.copy_ #[t, t'] o.type #[v, u]).run Try.prog w = .ok v' w') (h : wpList Try.prog ops Q rest (a.put o.dst v') w') : wpList Try.prog ops Q (o :: rest) a w := by
  refine wpList_plain hgd fun K hK => ?_
  unfold Oper.wp execOp
  simp only [ho, resolve, invoke, builtin, Sem.run_bind, Sem.run_pure, Result.andThen_ok, List.map_toArray, List.map_cons, List.map_nil, hd, hs, hr]
  exact hK _ _ h
theorem step_copy_known {ops : Array Oper} {o : Oper} {a : Act} {w : World} {K : Act → World → Prop} {Q : Exit → Act → World → Prop} {E : Prop}
    (hg : o.guard = none) (d x : Operand) (dT sT : TypeId) (hop : o.op = Op.call { callee := Callee.builtin Builtin.copy, args := #[d, x], argTypes := #[dT, sT] })
    (v u : Value) (hd : a.eval d = v) (hx : a.eval x = u) {v' : Value} {w' : World} (hr : (Builtin.copy_ #[dT, sT] o.type #[v, u]).run Try.prog w = .ok v' w') (hK : K (a.put o.dst v') w') :
    if Region.wanted o (yielded ops a.tmps) = true then Oper.wp Try.prog o a w K Q else E := by
  have hw : Region.wanted o (yielded ops a.tmps) = true := by simp [Region.wanted, hg]
  rw [if_pos hw]
  unfold Oper.wp
  simp [execOp, hop, resolve, invoke, builtin, hd, hx, hr, Result.andThen]
  exact hK
def insI (l : List It) (i : Nat) (t : It) : List It := l.take i ++ t :: l.drop i
def InsEnd (l : List It) (i : Nat) (t : It) (B : Nat) (s : Value) (w : World) (e : Ending) (w' : World) : Prop := ∃ v', e = .returned v' ∧ OwnIt w' B 58 v' (insI l i t) ∧ w.grownBy w' s.ownBlock
set_option maxHeartbeats 1000000 in
theorem ins_end (s : Value) (l : List It) (t : It) (B vb : Nat) (w : World) (ho : OwnIt w B 58 s l) (hx : ItsAt w (.slice (some ⟨vb, 0, none⟩) 1 1) [t]) (hl : l.length ≤ 5000) (hB : B ≤ w.heap.size) :
    Calls Try.prog 54 #[s, .int .i64 l.length, .slice (some ⟨vb, 0, none⟩) 1 1] w (InsEnd l l.length t B s w) := by
  obtain ⟨v5, w5, hr5, ho5, hg5⟩ := itappend_run w B 25 58 25 _ Try.underlying25 infoPit rfl s (.slice (some ⟨vb, 0, none⟩) 1 1) l [t] ho hx (by simp; omega) hB
  have HE : Hid (∀ e, e = Ending.returned v5 → InsEnd l l.length t B s w e w5) := Lib.hid (fun e he => ⟨v5, he, by unfold insI; rw [List.take_length, List.drop_length]; exact ho5, hg5⟩)
  have hee : ((l.length : Int) == (l.length : Int)) = true := by simp
  rcases ho.form with ⟨rfl, rfl⟩ | ⟨g, cap, rfl, _, _, hle, hm, _⟩
  · clear ho hx ho5 hg5
    go_enter Try.func54, Try.ntmps54
    go_wp2_with (first | (at_builtin; refine Lib.wpList_append_run _ rfl _ _ _ _ rfl _ _ rfl rfl _ _ hr5 ?_) | fail)
    go_ret
    exact HE.out _ rfl
  · unfold maxLen at hm
    generalize l.length = n at *
    have hn : (n : Int) ≤ (cap : Int) := by omega
    clear ho hx ho5 hg5
    by_cases hc : cap = n
    · subst hc
      go_enter Try.func54, Try.ntmps54
      go_wp2_with (first | (at_builtin; refine Lib.wpList_append_run _ rfl _ _ _ _ rfl _ _ rfl rfl _ _ hr5 ?_) | fail)
      go_ret
      exact HE.out _ rfl
    · go_enter Try.func54, Try.ntmps54
      go_wp2_with (first | (at_builtin; refine Lib.wpList_append_run _ rfl _ _ _ _ rfl _ _ rfl rfl _ _ hr5 ?_) | fail)
      go_ret
      exact HE.out _ rfl
end Go.Proofs.Ytleicghfcffblaa
/- slices.Insert ahead of the end: in place, and to a new row. -/
namespace Go.Proofs.Ytleicghfcffblaa
open Go.RowKit
set_option maxRecDepth 20000
set_option linter.unusedVariables false
set_option linter.unusedSimpArgs false
theorem hlt_of' {W : World} {b : Nat} {o : Obj} (h : W.heap[b]? = some o) : b < W.heap.size := (Array.getElem?_eq_some_iff.1 h).1
theorem ins_rows (cur A D T : List Value) (hA : cur.take (A.length + D.length) = A ++ D) (hT : T.length = 2) (hlen : A.length + D.length + 2 ≤ cur.length) :
    (splice (splice cur (A.length + 2) D) A.length T).take (A.length + D.length + 2) = A ++ (T ++ D) ∧ (splice (splice cur (A.length + 2) D) A.length T).length = cur.length := by
  have e1 : (splice cur (A.length + 2) D).length = cur.length := length_splice _ _ _ (by omega)
  refine ⟨?_, by rw [length_splice _ _ _ (by rw [e1, hT]; omega), e1]⟩
  have hA1 : cur.take A.length = A := by
    have := congrArg (List.take A.length) hA
    rw [List.take_take, Nat.min_eq_left (by omega), List.take_left] at this
    exact this
  have e2 : (splice cur (A.length + 2) D).take A.length = A := by
    unfold splice
    rw [List.take_append_of_le_length (by rw [List.length_take]; omega), List.take_take, Nat.min_eq_left (by omega), hA1]
  have e3 : (splice cur (A.length + 2) D).drop (A.length + T.length) = D ++ cur.drop (A.length + 2 + D.length) := by
    unfold splice
    have hl : (cur.take (A.length + 2)).length = A.length + T.length := by rw [List.length_take, hT]; omega
    rw [← hl, List.drop_left]
  have e4 : splice (splice cur (A.length + 2) D) A.length T = (A ++ (T ++ D)) ++ cur.drop (A.length + 2 + D.length) := by
    conv => lhs; unfold splice
    have e2' := e2
    have e3' := e3
    unfold splice at e2' e3'
    rw [e2', e3']
    simp
  rw [e4, List.take_append_of_le_length (by simp [hT]; omega)]
  exact List.take_of_length_le (by simp [hT]; omega)
theorem ins_rows2 (cur A D T : List Value) (hA : cur.take A.length = A) (hT : T.length = 2) (hlen : A.length + D.length + 2 ≤ cur.length) :
    (splice (splice cur A.length T) (A.length + 2) D).take (A.length + D.length + 2) = A ++ (T ++ D) ∧ (splice (splice cur A.length T) (A.length + 2) D).length = cur.length := by
  have e1 : (splice cur A.length T).length = cur.length := length_splice _ _ _ (by omega)
  refine ⟨?_, by rw [length_splice _ _ _ (by rw [e1]; omega), e1]⟩
  have e2 : splice cur A.length T = (A ++ T) ++ cur.drop (A.length + T.length) := by
    unfold splice
    rw [hA, List.append_assoc]
  have e3 : (splice cur A.length T).take (A.length + 2) = A ++ T := by
    rw [e2, List.take_append_of_le_length (by simp [hT])]
    exact List.take_of_length_le (by simp [hT])
  have e4 : splice (splice cur A.length T) (A.length + 2) D = (A ++ (T ++ D)) ++ (splice cur A.length T).drop (A.length + 2 + D.length) := by
    conv => lhs; unfold splice
    have e3' := e3
    unfold splice at e3' ⊢
    rw [e3']
    simp
  rw [e4, List.take_append_of_le_length (by simp [hT]; omega)]
  exact List.take_of_length_le (by simp [hT]; omega)
theorem flat_ins (l : List It) (i : Nat) (t : It) : flatI (insI l i t) = flatI (l.take i) ++ ([.int .u64 t.1, .string t.2] ++ flatI (l.drop i)) := by
  unfold insI
  rw [flatI_append]
  rfl
theorem insI_len (l : List It) (i : Nat) (t : It) (hi : i ≤ l.length) : (insI l i t).length = l.length + 1 := by
  unfold insI
  rw [List.length_append, List.length_cons, List.length_take, List.length_drop]
  omega
theorem flat_split (l : List It) (i : Nat) : flatI (l.take i) ++ flatI (l.drop i) = flatI l := by rw [← flatI_append, List.take_append_drop]
set_option maxHeartbeats 2000000 in
theorem ins_shift (l : List It) (t : It) (B vb g cap i : Nat) (w : World) (x : TypeId) (ho : OwnIt w B 58 (.slice (some ⟨g, 0, none⟩) l.length cap) l) (hv : w.heap[vb]? = some (.cells #[.int .u64 t.1, .string t.2] x (0, 0))) (hvb : vb ≠ g) (hi : i < l.length) (hroom : l.length + 1 ≤ cap) (hl : l.length ≤ 5000) :
    Calls Try.prog 54 #[.slice (some ⟨g, 0, none⟩) l.length cap, .int .i64 i, .slice (some ⟨vb, 0, none⟩) 1 1] w (InsEnd l i t B (.slice (some ⟨g, 0, none⟩) l.length cap) w) := by
  obtain ⟨hfl, h2⟩ := ho
  rcases h2 with ⟨e, _⟩ | ⟨g', cap', cur, e, hBg, hg, hle, hm, hcs, htake⟩
  · cases e
  cases e
  have hlA : (flatI (l.take i)).length = i * 2 := by rw [flatI_len, List.length_take]; omega
  have hlD : (flatI (l.drop i)).length = (l.length - i) * 2 := by rw [flatI_len, List.length_drop]
  have hcl : cur.toList.length = cap * 2 := by simpa using hcs
  obtain ⟨r1, r2⟩ := ins_rows cur.toList (flatI (l.take i)) (flatI (l.drop i)) [.int .u64 t.1, .string t.2] (by rw [hlA, hlD, flat_split, ← htake]; congr 1; omega) rfl (by rw [hlA, hlD, hcl]; omega)
  rw [← flat_ins] at r1
  rw [hlA, hlD] at r1
  rw [hlA] at r2
  rw [hcl] at r2
  have hmin1 : Nat.min (l.length + 1 - i) (l.length - i) = l.length - i := Nat.min_eq_right (by omega)
  have hmin2 : Nat.min 1 (l.length + 1 - i) = 1 := Nat.min_eq_left (by omega)
  have hcell : ∀ j u, (flatI (l.drop i))[j]? = some u → w.drew.cell? ((⟨g, i * 2, none⟩ : Addr).add j) = some u := by
    intro j u hj
    have hjl := (List.getElem?_eq_some_iff.1 hj).1
    have hadd : (⟨g, i * 2, none⟩ : Addr).add j = ⟨g, i * 2 + j, none⟩ := by simp [Addr.add]
    rw [hadd]
    show w.cell? ⟨g, i * 2 + j, none⟩ = some u
    have h3 : cur.toList[i * 2 + j]? = some u := by
      have h4 : (cur.toList.take (l.length * 2))[i * 2 + j]? = some u := by
        rw [htake, ← flat_split l i, List.getElem?_append_right (by omega), hlA, Nat.add_sub_cancel_left]
        exact hj
      rw [List.getElem?_take] at h4
      split at h4
      · exact h4
      · cases h4
    simp [World.cell?, hg]
    simpa using h3
  obtain ⟨w1, hr1, hg1, hk1⟩ := copy_run2 w.drew g (i * 2 + 2) (l.length - i) (cap - (i + 1)) ⟨g, i * 2, none⟩ (l.length + 1 - i) (cap - i) cur.toList 58 (flatI (l.drop i)) (by show w.heap[g]? = _; simpa using hg) (by rw [hmin1, hlD]) hcell (by rw [hlD, hcl]; omega) (flatI_one _)
  have hv1 : w1.heap[vb]? = some (.cells #[.int .u64 t.1, .string t.2] x (0, 0)) := by
    have hlt : vb < w.heap.size := hlt_of' hv
    rw [hk1.block vb hlt (fun e => hvb (Option.some.inj e))]
    exact hv
  obtain ⟨w2, hr2, hg2, hk2⟩ := copy_run2 w1 g (i * 2) (l.length + 1 - i) (cap - i) ⟨vb, 0, none⟩ 1 1 _ 58 [.int .u64 t.1, .string t.2] hg1 (by rw [hmin2]; rfl) (by
    intro j u hj
    match j, hj with
    | 0, hj => simp at hj; subst hj; simp [World.cell?, hv1, Addr.add]
    | 1, hj => simp at hj; subst hj; simp [World.cell?, hv1, Addr.add]
    | j + 2, hj => simp at hj) (by rw [length_splice _ _ _ (by rw [hlD, hcl]; omega), hcl]; simp; omega) (by intro u hu; simp at hu; rcases hu with rfl | rfl <;> rfl)
  have hkk : w.grownBy w2 (some g) := ((⟨rfl, rfl, rfl, Nat.le_refl _, fun k hk hne => rfl⟩ : w.grownBy w.drew (some g)).trans hk1).trans hk2
  have hll : (insI l i t).length = l.length + 1 := insI_len l i t (by omega)
  have hown : OwnIt w2 B 58 (.slice (some ⟨g, 0, none⟩) (l.length + 1) cap) (insI l i t) := by
    refine ⟨by rw [flatI_len], .inr ⟨g, cap, _, by rw [hll], hBg, hg2, by rw [hll]; exact hroom, hm, ?_, ?_⟩⟩
    · rw [List.size_toArray]; exact r2
    · rw [hll, ← r1]
      congr 1
      omega
  have HE : Hid (∀ e, e = Ending.returned (.slice (some ⟨g, 0, none⟩) (l.length + 1) cap) → InsEnd l i t B (.slice (some ⟨g, 0, none⟩) l.length cap) w e w2) := Lib.hid (fun e he => ⟨_, he, hown, hkk⟩)
  have hov : ∀ lb cb, (callFunc 73 #[.slice (some ⟨vb, 0, none⟩) 1 1, .slice (some ⟨g, (i + 1) * 2, none⟩) lb cb]).run Try.prog w = .ok (.value (.bool false)) w := fun lb cb => over_run w vb g _ lb cb hvb _ _ _ _ cur hv hg (by rw [hcs]; omega)
  rw [hmin1] at hr1
  rw [hmin2] at hr2
  clear hown hkk hk1 hk2 hg1 hg2 hv1 hcell r1 r2 htake hcs hcl hlA hlD hfl hmin1 hmin2 hll hg hv
  generalize l.length = n at *
  unfold maxLen at hm
  have a1 : (i : Int) ≤ (n : Int) := by omega
  have a2 : ((i : Int) == (n : Int)) = false := by rw [beq_eq_false_iff_ne]; omega
  have a3 : decide ((cap : Int) < (n : Int) + 1) = false := by rw [decide_eq_false_iff_not]; omega
  have a4 : ¬ (cap : Int) < (n : Int) + 1 := by omega
  have a5 : (n : Int) + 1 ≤ (cap : Int) := by omega
  have a6 : ¬ cap = i := by omega
  have a7 : ¬ cap = i + 1 := by omega
  have a8 : IntKind.i64.wrap ((n : Int) + 1) = (n : Int) + 1 := by rw [IntKind.wrap_i64]; omega
  have a9 : IntKind.i64.wrap ((i : Int) + 1) = (i : Int) + 1 := by rw [IntKind.wrap_i64]; omega
  have b1 : (i : Int) + 1 ≤ (n : Int) + 1 := by omega
  have b2 : ((i : Int) + 1).toNat = i + 1 := by omega
  have b4 : (0 : Int) ≤ (i : Int) + 1 := by omega
  have b5 : (i : Int) ≤ (n : Int) + 1 := by omega
  have b3 : ((n : Int) + 1).toNat = n + 1 := by omega
  go_enter Try.func54, Try.ntmps54
  go_wp2_with (simp only [hov])
  go_region_law (refine step_copy_known rfl (.tmp 73) (.tmp 76) 25 25 rfl (.slice (some ⟨g, i * 2 + 2, none⟩) (n - i) (cap - (i + 1))) (.slice (some ⟨g, i * 2, none⟩) (n + 1 - i) (cap - i)) (by simp [Act.eval, Act.put]; try omega) (by simp [Act.eval, Act.put]; try omega) (hr1 _) ?_)
  go_wp2_with (at_builtin; refine wpList_copy_known rfl _ _ 25 25 rfl _ _ rfl rfl (hr2 _) ?_)
  go_ret
  exact HE.out _ rfl
/-- The row that slices.Insert makes: what stood ahead, and zero items. -/
theorem zeros_row (w : World) (g n i : Nat) (l : List It) (h : ItsAt w (.slice (some ⟨g, 0, none⟩) n n) l) (hi : i < n) (hn : n ≤ 5000) :
    ∃ G W cur, (∀ ty, (Builtin.append_ #[25, 3] ty #[.slice (some ⟨g, 0, none⟩) i n, .int .i64 ((n : Int) + 1 - (i : Int))]).run Try.prog w = .ok (.slice (some ⟨w.heap.size, 0, none⟩) (n + 1) G) W) ∧ W.heap[w.heap.size]? = some (.cells (cur : List Value).toArray 58 (0, 0)) ∧ cur.take (i * 2) = flatI (l.take i) ∧ cur.length = G * 2 ∧ n + 1 ≤ G ∧ G ≤ maxLen ∧ Below w.heap.size w W := by
  have hl : l.length = n := by obtain ⟨_, _, e, _⟩ := h; cases e; rfl
  obtain ⟨i0, hi0, hz0, hz1, hz2⟩ := info_parts infoPit
  have hold := its_first (h.pre i (by omega)) w.drew (fun p => by simp)
  have hsum : i + (n + 1 - i) = n + 1 := by omega
  have hr := fun ty => Go.Lib.run_append_grow_zeros (P := Try.prog) w 25 3 ty 58 i0 _ .i64 .i64 Try.underlying25 Try.underlying3 hi0 hz0 (some ⟨g, 0, none⟩) i n (flatI (l.take i)) (by rw [hz1]; exact hold) (n + 1 - i) (by omega) (by omega) (by omega) (by omega) (by rw [hz2]; omega) (growslice_fits (by omega) (by rw [hz2]; omega))
  rw [hsum] at hr
  have hge := grownCap_ge w (n + 1) n 58
  have hle := grownCap_le_maxLen w (n + 1) n 58 (by unfold maxLen; omega)
  have hcast : ((n : Int) + 1 - (i : Int)) = ((n + 1 - i : Nat) : Int) := by omega
  refine ⟨grownCap w (n + 1) n 58, _, ((flatI (l.take i)).toArray ++ Builtin.zeroCells (Value.agg #[.int .u64 0, .string { data := #[] }]).cells (n + 1 - i) ++ Builtin.zeroCells (Value.agg #[.int .u64 0, .string { data := #[] }]).cells (grownCap w (n + 1) n 58 - (n + 1))).toList, fun ty => by rw [hcast]; exact hr ty, ?_, ?_, ?_, hge, hle, ((Below.refl w.heap.size w).drew).alloc (Nat.le_refl _) _⟩
  · rw [Array.toArray_toList]; exact heap_new w.drew _
  · have e1 : (flatI (l.take i)).length = i * 2 := by rw [flatI_len, List.length_take]; omega
    simp only [Array.toList_append, List.append_assoc]
    rw [List.take_append_of_le_length (by simp [e1]), List.take_of_length_le (by simp [e1])]
  · have e1 : (flatI (l.take i)).length = i * 2 := by rw [flatI_len, List.length_take]; omega
    rw [Array.length_toList]
    simp only [Array.size_append, size_zeroCells]
    generalize grownCap w (n + 1) n 58 = G at *
    have e2 : (flatI (l.take i)).toArray.size = i * 2 := by simp [e1]
    rw [e2]
    show i * 2 + (n + 1 - i) * 2 + (G - (n + 1)) * 2 = G * 2
    omega
set_option maxHeartbeats 2000000 in
theorem ins_grow (l : List It) (t : It) (B vb g i : Nat) (w : World) (x : TypeId) (ho : ItsAt w (.slice (some ⟨g, 0, none⟩) l.length l.length) l) (hv : w.heap[vb]? = some (.cells #[.int .u64 t.1, .string t.2] x (0, 0))) (hi : i < l.length) (hl : l.length ≤ 5000) (hB : B ≤ w.heap.size) :
    Calls Try.prog 54 #[.slice (some ⟨g, 0, none⟩) l.length l.length, .int .i64 i, .slice (some ⟨vb, 0, none⟩) 1 1] w (InsEnd l i t B (.slice (some ⟨g, 0, none⟩) l.length l.length) w) := by
  obtain ⟨G, w1, cur, hr0, hg0, hc0, hcl, hG1, hG2, hb1⟩ := zeros_row w g l.length i l ho hi hl
  have hlA : (flatI (l.take i)).length = i * 2 := by rw [flatI_len, List.length_take]; omega
  have hlD : (flatI (l.drop i)).length = (l.length - i) * 2 := by rw [flatI_len, List.length_drop]
  obtain ⟨r1, r2⟩ := ins_rows2 cur (flatI (l.take i)) (flatI (l.drop i)) [.int .u64 t.1, .string t.2] (by rw [hlA, hc0]) rfl (by rw [hlA, hlD, hcl]; omega)
  rw [← flat_ins] at r1
  rw [hlA, hlD] at r1
  rw [hlA] at r2
  rw [hcl] at r2
  have hmin1 : Nat.min (l.length - i) (l.length - i) = l.length - i := Nat.min_self _
  have hmin2 : Nat.min 1 (l.length + 1 - i) = 1 := Nat.min_eq_left (by omega)
  have hvl := hlt_of' hv
  have hv1 : w1.heap[vb]? = some (.cells #[.int .u64 t.1, .string t.2] x (0, 0)) := (hb1.block vb hvl).trans hv
  obtain ⟨w2, hr1, hg1, hk1⟩ := copy_run2 w1 w.heap.size (i * 2) (l.length + 1 - i) (G - i) ⟨vb, 0, none⟩ 1 1 cur 58 [.int .u64 t.1, .string t.2] hg0 (by rw [hmin2]; rfl) (by
    intro j u hj
    match j, hj with
    | 0, hj => simp at hj; subst hj; simp [World.cell?, hv1, Addr.add]
    | 1, hj => simp at hj; subst hj; simp [World.cell?, hv1, Addr.add]
    | j + 2, hj => simp at hj) (by rw [hcl]; simp; omega) (by intro u hu; simp at hu; rcases hu with rfl | rfl <;> rfl)
  have hb2 : Below w.heap.size w w2 := hb1.grown hk1 hb1.size (fun k hk => by cases hk; exact Nat.le_refl _)
  have hcell : ∀ j u, (flatI (l.drop i))[j]? = some u → w2.drew.cell? ((⟨g, i * 2, none⟩ : Addr).add j) = some u := by
    intro j u hj
    have h3 := its_cells (ho.post i (by omega)) j u hj
    rw [Nat.zero_add] at h3
    have h4 := vcell_later hb2 h3
    simpa using h4
  obtain ⟨w3, hr2, hg2, hk2⟩ := copy_run2 w2.drew w.heap.size (i * 2 + 2) (l.length - i) (G - (i + 1)) ⟨g, i * 2, none⟩ (l.length - i) (l.length - i) (splice cur (i * 2) [.int .u64 t.1, .string t.2]) 58 (flatI (l.drop i)) (by show w2.heap[w.heap.size]? = _; exact hg1) (by rw [hmin1, hlD]) hcell (by rw [length_splice _ _ _ (by rw [hcl]; simp; omega), hlD, hcl]; omega) (flatI_one _)
  have hb3 : Below w.heap.size w w3 := hb2.drew.grown hk2 hb2.size (fun k hk => by cases hk; exact Nat.le_refl _)
  have hll : (insI l i t).length = l.length + 1 := insI_len l i t (by omega)
  have hown : OwnIt w3 B 58 (.slice (some ⟨w.heap.size, 0, none⟩) (l.length + 1) G) (insI l i t) := by
    refine ⟨by rw [flatI_len], .inr ⟨w.heap.size, G, _, by rw [hll], hB, hg2, by rw [hll]; exact hG1, hG2, ?_, ?_⟩⟩
    · rw [List.size_toArray]; exact r2
    · rw [hll, ← r1]
      congr 1
      omega
  have hkk : w.grownBy w3 (some g) := ⟨hb3.os, hb3.tape, hb3.output, hb3.size, fun k hk _ => hb3.block k hk⟩
  have HE : Hid (∀ e, e = Ending.returned (.slice (some ⟨w.heap.size, 0, none⟩) (l.length + 1) G) → InsEnd l i t B (.slice (some ⟨g, 0, none⟩) l.length l.length) w e w3) := Lib.hid (fun e he => ⟨_, he, hown, hkk⟩)
  rw [hmin2] at hr1
  rw [hmin1] at hr2
  generalize hB0 : w.heap.size = N0 at *
  clear hown hkk hk1 hk2 hg1 hg2 hv1 hcell r1 r2 hcl hlA hlD hmin1 hmin2 hll hg0 hc0 hv ho hb1 hb2 hb3 hvl hB hB0
  generalize l.length = n at *
  unfold maxLen at hG2
  have a1 : (i : Int) ≤ (n : Int) := by omega
  have a2 : ((i : Int) == (n : Int)) = false := by rw [beq_eq_false_iff_ne]; omega
  have a3 : decide ((n : Int) < (n : Int) + 1) = true := by rw [decide_eq_true_iff]; omega
  have a5 : (i : Int) ≤ (n : Int) + 1 := by omega
  have a6 : ¬ n = i := by omega
  have a7 : ¬ G = i := by omega
  have a8 : IntKind.i64.wrap ((n : Int) + 1) = (n : Int) + 1 := by rw [IntKind.wrap_i64]; omega
  have a9 : IntKind.i64.wrap ((i : Int) + 1) = (i : Int) + 1 := by rw [IntKind.wrap_i64]; omega
  have a10 : IntKind.i64.wrap ((n : Int) + 1 - (i : Int)) = (n : Int) + 1 - (i : Int) := by rw [IntKind.wrap_i64]; omega
  have b1 : (i : Int) + 1 ≤ (n : Int) + 1 := by omega
  have b2 : ((i : Int) + 1).toNat = i + 1 := by omega
  have b4 : (0 : Int) ≤ (i : Int) + 1 := by omega
  have b6 : ¬ G = i + 1 := by omega
  go_enter Try.func54, Try.ntmps54
  go_wp2_with (first
    | (at_builtin; refine Lib.wpList_append_run _ rfl _ _ _ _ rfl _ _ rfl rfl _ _ (hr0 _) ?_)
    | (at_builtin; refine wpList_copy_known rfl _ _ 25 25 rfl _ _ rfl rfl (hr1 _) ?_))
  go_region_law (refine step_copy_known rfl (.tmp 50) (.tmp 53) 25 25 rfl (.slice (some ⟨N0, i * 2 + 2, none⟩) (n - i) (G - (i + 1))) (.slice (some ⟨g, i * 2, none⟩) (n - i) (n - i)) (by simp [Act.eval, Act.put]; try omega) (by simp [Act.eval, Act.put]; try omega) (hr2 _) ?_)
  go_wp2_with fail
  go_ret
  exact HE.out _ rfl
theorem insert_any (s : Value) (l : List It) (t : It) (B vb i : Nat) (w : World) (x : TypeId) (ho : OwnIt w B 58 s l) (hv : w.heap[vb]? = some (.cells #[.int .u64 t.1, .string t.2] x (0, 0))) (hvb : s.ownBlock ≠ some vb) (hi : i ≤ l.length) (hl : l.length ≤ 5000) (hB : B ≤ w.heap.size) :
    Calls Try.prog 54 #[s, .int .i64 i, .slice (some ⟨vb, 0, none⟩) 1 1] w (InsEnd l i t B s w) := by
  have hx : ItsAt w (.slice (some ⟨vb, 0, none⟩) 1 1) [t] := by
    refine ⟨_, 1, rfl, Nat.le_refl _, by unfold maxLen; omega, fun k u hu => ⟨vb, 0, rfl, hlt_of' hv, ?_⟩⟩
    match k, hu with
    | 0, hu => simp only [List.getElem?_cons_zero, Option.some.injEq] at hu; subst hu; exact ⟨by simp [World.cell?, hv], by simp [World.cell?, hv]⟩
    | k + 1, hu => simp at hu
  by_cases he : i = l.length
  · subst he
    exact ins_end s l t B vb w ho hx hl hB
  · rcases ho.form with ⟨rfl, rfl⟩ | ⟨g, cap, rfl, _, _, hle, hm, _⟩
    · exact absurd (Nat.le_antisymm hi (Nat.zero_le _)) he
    · by_cases hr : l.length + 1 ≤ cap
      · exact ins_shift l t B vb g cap i w x ho hv (fun e => hvb (by rw [e]; rfl)) (by omega) hr hl
      · obtain rfl : cap = l.length := by omega
        exact ins_grow l t B vb g i w x ho.itsAt hv (by omega) hl hB
end Go.Proofs.Ytleicghfcffblaa
/- Of. -/
namespace Go.Proofs.Ytleicghfcffblaa
open Go.RowKit
set_option maxRecDepth 20000
set_option linter.unusedVariables false
set_option linter.unusedSimpArgs false
theorem own_one {w : World} {B g : Nat} {E : TypeId} {v x : Value} {l : List It} (h : OwnIt w B E v l) (ho : One w g x) : v.ownBlock ≠ some g := by
  intro e
  obtain ⟨T, hh⟩ := ho
  rcases h.2 with ⟨rfl, _⟩ | ⟨g', cap, cur, rfl, _, h2, _, _, hcs, _⟩
  · cases e
  · cases e
    rw [hh] at h2
    cases h2
    simp at hcs
    omega
theorem One.grown {w w' : World} {B g : Nat} {E : TypeId} {v x : Value} {l : List It} (ho : One w g x) (h : OwnIt w B E v l) (hg : w.grownBy w' v.ownBlock) : One w' g x := by
  have hl := ho.lt
  have hn := own_one h ho
  obtain ⟨T, hh⟩ := ho
  exact ⟨T, (hg.block g hl (fun e => hn e.symm)).trans hh⟩
theorem OwnIt.set {w : World} {B g : Nat} {E : TypeId} {v x : Value} {l : List It} (h : OwnIt w B E v l) (ho : One w g x) (x' : Value) : OwnIt (w.setCell ⟨g, 0, none⟩ x') B E v l := by
  have hn := own_one h ho
  obtain ⟨h1, h2⟩ := h
  refine ⟨h1, ?_⟩
  rcases h2 with h2 | ⟨g', cap, cur, rfl, hg, hh, r⟩
  · exact .inl h2
  · refine .inr ⟨g', cap, cur, rfl, hg, ?_, r⟩
    exact (Below.heap_setCell _ _ _ _ (fun e => hn (by show some g' = some g; rw [e]))).trans hh
/-- What stands in a round of Of. -/
structure OfS (w W : World) (s : Value) (acc : List It) : Prop where
  res : One W w.heap.size (.slice none 0 0)
  cb : One W (w.heap.size + 1) s
  own : OwnIt W w.heap.size 58 s acc
  bel : Below w.heap.size w W
theorem OfS.below {w W W' : World} {s : Value} {acc : List It} (h : OfS w W s acc) (hb : Below W.heap.size W W') : OfS w W' s acc :=
  ⟨h.res.below hb, h.cb.below hb, h.own.below hb, h.bel.trans (hb.mono h.bel.size)⟩
theorem of_start (w : World) : OfS w ((w.alloc (.cells #[.slice none 0 0] 27)).alloc (.cells #[.slice none 0 0] 27)) (.slice none 0 0) [] := by
  have h1 := one_new w (.slice none 0 0) 27
  have h2 := one_new (w.alloc (.cells #[.slice none 0 0] 27)) (.slice none 0 0) 27
  simp only [World.size_alloc] at h2
  exact ⟨h1.alloc _, h2, ownIt_nil _ _ _, by go_grown⟩
theorem seen_step (id x : Nat) (t : ByteArray) (acc sn : List It) (h : ∀ id, (getI id acc).isSome = (getI id sn).isSome) : (getI id (putI x t acc)).isSome = (getI id (sn ++ [(x, t)])).isSome := by
  rw [Bool.eq_iff_iff, getI_some, getI_some]
  have h1 := h id
  rw [Bool.eq_iff_iff, getI_some, getI_some] at h1
  constructor
  · rintro ⟨u, hu, he⟩
    rcases (mem_put x t acc u).1 hu with rfl | ⟨hu, hn⟩
    · exact ⟨_, by simp, he⟩
    · obtain ⟨u2, hu2, he2⟩ := h1.1 ⟨u, hu, he⟩
      exact ⟨u2, by simp [hu2], he2⟩
  · rintro ⟨u, hu, he⟩
    by_cases hx : x = id
    · exact ⟨(x, t), (mem_put x t acc _).2 (.inl rfl), hx⟩
    · rcases List.mem_append.1 hu with hu | hu
      · obtain ⟨u2, hu2, he2⟩ := h1.2 ⟨u, hu, he⟩
        exact ⟨u2, (mem_put x t acc u2).2 (.inr ⟨hu2, by omega⟩), he2⟩
      · simp at hu
        subst hu
        exact absurd he hx
theorem put_small {l : List It} {id : Nat} {t : ByteArray} (h0 : putE l id t = 0) : t.size ≤ 65536 := by
  unfold putE at h0
  by_cases h1 : 6004799503160661 ≤ id
  · rw [if_pos h1] at h0; cases h0
  rw [if_neg h1] at h0
  by_cases h2 : t.size = 0
  · omega
  rw [if_neg h2] at h0
  by_cases h3 : 65536 < t.size
  · rw [if_pos h3] at h0; cases h0
  omega
theorem ins_form {l : List It} {i : Nat} {t : It} {B : Nat} {s : Value} {w w' : World} {e : Ending} (h : InsEnd l i t B s w e w') : ∃ a n c, e = .returned (.slice a n c) ∧ OwnIt w' B 58 (.slice a n c) (insI l i t) ∧ w.grownBy w' s.ownBlock := by
  obtain ⟨v, rfl, ho, hb⟩ := h
  obtain ⟨a, c, rfl⟩ := ho.slice
  exact ⟨_, _, _, rfl, ho, hb⟩
/-- The row with the item put in. -/
theorem of_ins (w W : World) (s : Value) (acc : List It) (i id : Nat) (t : ByteArray) (h : OfS w W s acc) (hi : i ≤ acc.length) (hl : acc.length ≤ 5000) :
    Calls Try.prog 54 #[s, .int .i64 i, .slice (some ⟨W.heap.size, 0, none⟩) 1 1] (W.alloc (.cells #[.int .u64 id, .string t] 58))
      fun e w' => ∃ a n c, e = .returned (.slice a n c) ∧ OwnIt w' w.heap.size 58 (.slice a n c) (insI acc i (id, t)) ∧ One w' w.heap.size (.slice none 0 0) ∧ One w' (w.heap.size + 1) s ∧ Below w.heap.size w w' := by
  have h1 := h.below (below_oneC W (.cells #[.int .u64 id, .string t] 58))
  refine (insert_any s acc (id, t) w.heap.size W.heap.size i _ 58 h1.own (heap_new _ _) (fun e => ?_) hi hl h1.bel.size).mono (fun e w' h2 => ?_)
  · have := (h.own.lt _ e).2
    omega
  · obtain ⟨a, n, c, rfl, ho, hg⟩ := ins_form h2
    exact ⟨a, n, c, rfl, ho, h1.res.grown h1.own hg, h1.cb.grown h1.own hg, h1.bel.grown hg h1.bel.size (fun k hk => (h1.own.lt k hk).1)⟩
set_option maxHeartbeats 4000000 in
theorem of_anyC (v : Value) (l : List It) (w : World) (hv : ItsAt w v l) (hl : l.length ≤ 10000) (hid : ∀ t ∈ l, t.1 < 18446744073709551616) (hs : ∀ t ∈ l, t.2.size ≤ maxLen) :
    Calls Try.prog 31 #[v] w fun e w' => ∃ s, e = .returned (.tuple #[.agg #[s], .int .i64 ((ofI l).2 : Nat)]) ∧ ChS w' s (ofI l).1 ∧ Below w.heap.size w w' := by
  obtain ⟨al, cap, rfl, hcap, hmx, hc⟩ := hv
  have HC := Lib.hid hc
  have HST := Lib.hid (of_start w)
  obtain ⟨R, hR⟩ : ∃ R, ofI l = R := ⟨_, rfl⟩
  rw [hR]
  have HRR := Lib.hid hR
  clear hc hR
  go_enter Try.func31, Try.ntmps31
  go_wp2_with fail
  go_loopw [12] (fun x wr => ∃ (k : Nat) (acc : List It) (s : Value), k ≤ l.length ∧ x = .int .i64 k ∧ OfS w wr s acc ∧ GoodC acc ∧ R = ofR (l.take k) acc (l.drop k) ∧ ∀ id, (getI id acc).isSome = (getI id (l.take k)).isSome) (fun x _ => l.length - (intOf x).toNat)
  case atStart => exact ⟨0, [], _, Nat.zero_le _, rfl, HST.out, goodC_nil, HRR.out.symm, fun id => rfl⟩
  case round =>
    obtain ⟨k, acc, s, hk, rfl, hO, hgood, hR, hseen⟩ := hrel
    have HO := Lib.hid hO
    have HGD := Lib.hid hgood
    have HSE := Lib.hid hseen
    have hfew := hgood.few
    have hle := loC_le
    have cc := hO.cb.cell
    have rr := hO.res.cell
    have rf := hO.res.frz
    have cA : ∀ O, (wr.alloc O).cell? ⟨w.heap.size + 1, 0, none⟩ = some s := fun O => (hO.cb.alloc O).cell
    clear HST HRR
    by_cases hlt : k < l.length
    · obtain ⟨⟨x, t⟩, htk⟩ : ∃ t, l[k]? = some t := ⟨_, List.getElem?_eq_getElem hlt⟩
      have hx := hid _ (List.mem_of_getElem? htk)
      have ht := hs _ (List.mem_of_getElem? htk)
      simp only at hx ht
      obtain ⟨g, off, rfl, hg, c0, c1⟩ := HC.out k _ htk
      have d0 := (hO.bel.cell (p := ⟨g, off + k * 2, none⟩) hg).trans c0
      have d1 := (hO.bel.cell (p := ⟨g, off + k * 2 + 1, none⟩) hg).trans c1
      rw [ofR_step l acc k _ htk, ← hseen x] at hR
      have hki : (k : Int) < (l.length : Int) := by omega
      have HPL := Lib.hid (fun X (hX : Below wr.heap.size wr X) => place_any s acc x X ⟨(hO.own.below hX).itsAt, hgood⟩)
      have HCK := Lib.hid (fun X (hX : Below wr.heap.size wr X) => check_any s acc x t X ⟨(hO.own.below hX).itsAt, hgood⟩ ht)
      obtain ⟨a7, n7, p7, rfl⟩ : ∃ a n c, s = .slice a n c := by obtain ⟨_, _, e⟩ := hO.own.slice; exact ⟨_, _, _, e⟩
      have hlo := loC_le x acc
      have HIT := Lib.hid (two_new wr (.int .u64 x) (.string t) 58)
      have HPN := Lib.hid (fun hn => put_no (id := x) (s := t) (l := acc) hn)
      have HTK := Lib.hid (itake_at l k _ htk)
      obtain ⟨b, hb⟩ : ∃ b, (getI x acc).isSome = b := ⟨_, rfl⟩
      rw [hb] at HPL HCK hR HPN
      have hbz := below_oneC wr (.cells #[.int .u64 x, .string t] 58)
      have HBZ := Lib.hid hbz
      clear c0 c1 hO hgood hseen hb hbz hle htk
      cases b with
      | true =>
        rw [if_pos rfl] at hR
        have HR := Lib.hid hR
        clear hR
        go_wp2_with fail
        refine (HPL.out _ HBZ.out).mono ?_
        rintro e w1 ⟨rfl, hb⟩
        have H1 := Lib.hid ((HO.out.below HBZ.out).below hb)
        have r0 := H1.out.res.cell
        have r1 := H1.out.res.frz
        clear hb cc rr rf d0 d1 cA
        go_wp2_with fail
        refine bodyPost_ret (results_o2 rfl _ _ w.heap.size _ _ _ rfl rfl (H1.out.res.set _).cell Try.underlying27 rfl chart_size) rfl ⟨_, by rw [HR.out]; rfl, ?_, H1.out.bel.setCell (p := ⟨w.heap.size, 0, none⟩) (Nat.le_refl _) _⟩
        rw [HR.out]
        exact chS_nil _
      | false =>
        rw [if_neg (by decide)] at hR
        obtain ⟨z, hz⟩ : ∃ z, putE acc x t = z := ⟨_, rfl⟩
        rw [hz] at hR HCK
        by_cases h0 : z = 0
        · subst h0
          rw [if_neg (by simp)] at hR
          have HR := Lib.hid hR
          have HTS := Lib.hid (put_small hz)
          have HKE := Lib.hid (fun W => kept_any x t W (Nat.le_trans HTS.out (by omega)))
          have HGP : Hid (GoodC (putI x t acc)) := by
            have h1 := good_put (id := x) (s := t) HGD.out
            unfold putL at h1
            rw [if_pos hz] at h1
            exact Lib.hid h1
          have HPE : Hid (insI acc (loC x acc) (x, t) = putI x t acc) := Lib.hid (HPN.out rfl).symm
          have HIN := Lib.hid (fun X (h : OfS w X (.slice a7 n7 p7) acc) => of_ins w X (.slice a7 n7 p7) acc (loC x acc) x t h hlo (by omega))
          rw [HPE.out] at HIN
          clear hR HPN HPE
          go_wp2_with fail
          refine (HPL.out _ HBZ.out).mono ?_
          rintro e w1 ⟨rfl, hb⟩
          have H1 := Lib.hid ((HO.out.below HBZ.out).below hb)
          have I1 := Lib.hid (HIT.out.below hb)
          have hb1 := Lib.hid (HBZ.out.trans (hb.mono HBZ.out.size))
          have c1 := H1.out.cb.cell
          obtain ⟨i0, i1, _, _⟩ := I1.out
          clear hb cc rr rf d0 d1 cA
          go_wp2_with fail
          refine (HCK.out _ hb1.out).mono ?_
          rintro e w2 ⟨rfl, hb⟩
          have H2 := Lib.hid (H1.out.below hb)
          have I2 := Lib.hid (I1.out.below hb)
          clear hb c1 i0 i1
          have c2 := H2.out.cb.cell
          obtain ⟨i0, i1, _, _⟩ := I2.out
          go_wp2_with fail
          go_region_law (first | (go_simp; go_at_call 55; refine (HKE.out _).mono ?_; rintro e w3 ⟨rfl, hb⟩; have hb3 : Below w2.heap.size w2 w3 := (by go_grown : Below w2.heap.size w2 _).trans (hb.mono (by simp)); have O3 := H2.out.below hb3; have k3 := O3.cb.cell; have k4 : ∀ O, (w3.alloc O).cell? ⟨w.heap.size + 1, 0, none⟩ = _ := fun O => (O3.cb.alloc O).cell) | (go_simp; go_at_call 54; refine (HIN.out _ O3).mono ?_; rintro e w5 ⟨a9, n9, p9, rfl, ho9, hr9, hc9, hb9⟩; have k5 := hc9.cell; have k6 := hc9.frz))
          all_goals
            have H5 := Lib.hid (OfS.mk (w := w) (hr9.set_other (by omega) (.slice a9 n9 p9)) (hc9.set (.slice a9 n9 p9)) (ho9.set hc9 (.slice a9 n9 p9)) (hb9.setCell (p := ⟨w.heap.size + 1, 0, none⟩) (Nat.le_succ _) (.slice a9 n9 p9)))
            go_wp2_with fail
            go_roundw
            case rel => exact ⟨k + 1, _, _, by omega, by go_num, H5.out, HGP.out, HR.out, fun id => by rw [HTK.out]; exact seen_step id x t acc _ HSE.out⟩
            case measure => simp [intOf]; omega
        · rw [if_pos h0] at hR
          have hzn : (((z : Nat) : Int) != 0) = true := by simpa using h0
          have HR := Lib.hid hR
          clear hR
          go_wp2_with fail
          refine (HPL.out _ HBZ.out).mono ?_
          rintro e w1 ⟨rfl, hb⟩
          have H1 := Lib.hid ((HO.out.below HBZ.out).below hb)
          have I1 := Lib.hid (HIT.out.below hb)
          have hb1 := Lib.hid (HBZ.out.trans (hb.mono HBZ.out.size))
          have c1 := H1.out.cb.cell
          obtain ⟨i0, i1, _, _⟩ := I1.out
          clear hb cc rr rf d0 d1 cA
          go_wp2_with fail
          refine (HCK.out _ hb1.out).mono ?_
          rintro e w2 ⟨rfl, hb⟩
          have H2 := Lib.hid (H1.out.below hb)
          have r0 := H2.out.res.cell
          have r1 := H2.out.res.frz
          clear hb c1 i0 i1
          go_wp2_with fail
          refine bodyPost_ret (results_o2 rfl _ _ w.heap.size _ _ _ rfl rfl (H2.out.res.set _).cell Try.underlying27 rfl chart_size) rfl ⟨_, by rw [HR.out]; rfl, ?_, H2.out.bel.setCell (p := ⟨w.heap.size, 0, none⟩) (Nat.le_refl _) _⟩
          rw [HR.out]
          exact chS_nil _
    · obtain rfl : k = l.length := by omega
      rw [List.drop_length, ofR] at hR
      have HR := Lib.hid hR
      obtain ⟨a7, n7, p7, rfl⟩ : ∃ a n c, s = .slice a n c := by obtain ⟨_, _, e⟩ := hO.own.slice; exact ⟨_, _, _, e⟩
      clear hR hO hgood hseen hle
      go_wp2_with fail
      refine bodyPost_ret (results_o2 rfl _ _ w.heap.size _ _ _ rfl rfl (HO.out.res.set _).cell Try.underlying27 rfl chart_size) rfl ⟨_, by rw [HR.out]; rfl, ?_, HO.out.bel.setCell (p := ⟨w.heap.size, 0, none⟩) (Nat.le_refl _) _⟩
      rw [HR.out]
      exact ⟨HO.out.own.itsAt.set HO.out.res _, HGD.out⟩
end Go.Proofs.Ytleicghfcffblaa
