/- Several texts, one behind the other: Mb, Mc, Md, Me, Mf, Mg. -/
import Derived.Test.YtleicghfcffblaaMa
import Derived.Maps.OwnSet
/- Plain: what holds of the entries that are made of a chart's tiles, tile by tile. -/
namespace Go.Proofs.Ytleicghfcffblaa
set_option maxRecDepth 20000
set_option linter.unusedVariables false
set_option linter.unusedSimpArgs false
structure RInv (P : List It) (rows : List En) (ts : List ByteArray) : Prop where
  good : GoodP ts
  len : ts.length ≤ P.length
  mem : ∀ s, s ∈ ts ↔ ∃ t ∈ P, t.2 = s
  ok : ∀ e ∈ rows, OkE e ts
  row : rowG (-1) rows = 0
  exp : expN rows (catF ts) = P
  one : NoOne rows
  few : rows.length ≤ P.length
  last : ∀ r a, rows = r ++ [a] → ∃ P' t, P = P' ++ [t] ∧ laN a = (t.1 : Int)
theorem rinv_nil : RInv [] [] [] := ⟨goodP_nil, Nat.le_refl _, by simp, by simp, rfl, rfl, noOne_nil, Nat.le_refl _, fun r a h => by simp at h⟩
theorem la_ok {e : En} (h : ckN e = 0) (hr : 1 ≤ e.rn) : laN e = e.id + e.rn - 1 := by
  unfold laN wdN
  rw [if_pos h, if_neg (by omega)]
theorem rowG_snoc (r : List En) (e : En) (p : Int) (h : rowG p r = 0) (hck : ckN e = 0) (hp : (r.foldl (fun _ e => laN e) p) < e.id) : rowG p (r ++ [e]) = 0 := by
  rw [rowG_append p r [e] h, rowG, if_neg (by simpa using hck), if_neg (by omega)]
  rfl
theorem rowG_snoc_inv (r : List En) (e : En) (p : Int) (h : rowG p (r ++ [e]) = 0) : rowG p r = 0 ∧ ckN e = 0 ∧ (r.foldl (fun _ e => laN e) p) < e.id := by
  have h1 := rowG_left p r [e] h
  rw [rowG_append p r [e] h1] at h
  obtain ⟨h2, h3, _⟩ := rowG_cons _ e [] h
  exact ⟨h1, h2, h3⟩
theorem fold_snoc (r : List En) (a : En) (p : Int) : (r ++ [a]).foldl (fun _ e => laN e) p = laN a := by simp
theorem rinv_step {P : List It} {rows : List En} {ts : List ByteArray} (h : RInv P rows ts) (t : It) (hr : ∀ u ∈ P, u.1 < t.1) (hlow : t.1 < 6004799503160661) (h0 : 0 < t.2.size) (h1 : t.2.size ≤ 65536) (hf : P.length < 2048) :
    RInv (P ++ [t]) (stepR (rows, ts) t).1 (stepR (rows, ts) t).2 := by
  have hl : ts.length < 2048 := Nat.lt_of_le_of_lt h.len hf
  obtain ⟨hlen, hfind⟩ := new_place h0 h1 hl
  have hgood := h.good.add t.2
  have hnl := newL_len ts t.2
  have hmem : ∀ s, s ∈ newL ts t.2 ↔ ∃ u ∈ P ++ [t], u.2 = s := by
    intro s
    rw [mem_newL ts t.2 s h0 h1 hl, h.mem]
    constructor
    · rintro (⟨u, hu, he⟩ | rfl)
      · exact ⟨u, by simp [hu], he⟩
      · exact ⟨t, by simp, rfl⟩
    · rintro ⟨u, hu, he⟩
      rcases List.mem_append.1 hu with hu | hu
      · exact .inl ⟨u, hu, he⟩
      · rw [List.mem_singleton.1 hu] at he
        exact .inr he.symm
  have hexp : expN rows (catF (newL ts t.2)) = P := by rw [exp_grow h.ok, h.exp]
  have hok : ∀ e ∈ rows, OkE e (newL ts t.2) := fun e he => ((h.ok e he).grow t.2).1
  have hle := findF_le _ _ _ _ hfind
  have htot := hgood.tot
  obtain ⟨e1, he1⟩ : ∃ e1, newE ts t = e1 := ⟨_, rfl⟩
  have d1 : e1.id = (t.1 : Int) := by rw [← he1]; rfl
  have d2 : e1.off = (offA ts t.2 : Int) := by rw [← he1]; rfl
  have d3 : e1.ln = (t.2.size : Int) := by rw [← he1]; show ((lenA ts t.2 : Nat) : Int) = _; rw [hlen]
  have d4 : e1.rn = 1 := by rw [← he1]; rfl
  have dck : ckN e1 = 0 := by
    unfold ckN cnN wdN
    rw [if_neg (by omega), if_neg (by rw [if_neg (by omega)]; omega), if_neg (by omega)]
  have dla : laN e1 = (t.1 : Int) := by rw [la_ok dck (by omega)]; omega
  have dok : OkE e1 (newL ts t.2) := ⟨by unfold MayN; omega, dck, by omega, t.2, by rw [hfind, d2, Int.toNat_natCast], d3⟩
  have dtx : txN e1 (catF (newL ts t.2)) = t.2 := ok_text (by rw [hfind, d2, Int.toNat_natCast]) d3
  have drun : runN e1 (catF (newL ts t.2)) = [t] := by
    unfold runN
    rw [d4, dtx, d1]
    show (List.range 1).map _ = _
    simp
  show RInv (P ++ [t]) (addE rows (newE ts t)) (newL ts t.2)
  rw [he1]
  rcases List.eq_nil_or_concat rows with rfl | ⟨r, a, rfl⟩
  · have hP : P = [] := by rw [← h.exp]; rfl
    subst hP
    rw [addE_nil]
    refine ⟨hgood, by have h2 := h.len; simp only [List.length_nil, List.nil_append, List.length_singleton] at h2 ⊢; omega, hmem, by simpa using dok, ?_, ?_, ?_, by simp, ?_⟩
    · exact rowG_snoc [] e1 (-1) rfl dck (by simp; omega)
    · rw [expN_one, drun]; rfl
    · exact noOne_snoc noOne_nil (fun r a h => by simp at h)
    · intro r a h
      obtain ⟨_, rfl⟩ := List.append_inj' (show [] ++ [e1] = r ++ [a] by simpa using h) rfl |>.imp id (fun h => by simpa using h)
      exact ⟨[], t, rfl, dla⟩
  · rw [List.concat_eq_append] at *
    obtain ⟨P', t0, hP, hla⟩ := h.last r a rfl
    have ha := h.ok a (by simp)
    obtain ⟨hrow, hcka, hpa⟩ := rowG_snoc_inv r a (-1) h.row
    have hlt : t0.1 < t.1 := hr t0 (by rw [hP]; simp)
    have hlaa := la_ok ha.ck ha.run
    have hrun := ha.run
    have hmay := ha.may
    have hrn : a.rn.toNat ≤ P.length := by
      have := congrArg List.length h.exp
      rw [expN_append, expN_one, List.length_append, runN_len] at this
      omega
    rw [addE_concat]
    by_cases hone : oneE a e1 = true
    · rw [if_pos hone]
      have hone' := of_decide_eq_true hone
      obtain ⟨o1, o2, o3⟩ := hone'
      obtain ⟨a2, ha2⟩ : ∃ a2 : En, a2 = { a with rn := a.rn + 1 } := ⟨_, rfl⟩
      have b1 : a2.id = a.id := by rw [ha2]
      have b2 : a2.off = a.off := by rw [ha2]
      have b3 : a2.ln = a.ln := by rw [ha2]
      have b4 : a2.rn = a.rn + 1 := by rw [ha2]
      rw [← ha2]
      clear ha2
      have hck := ck_ok a ha.ck
      have hck2 : ckN a2 = 0 := by
        unfold ckN cnN wdN
        rw [if_neg (by omega), if_neg (by rw [if_neg (by omega)]; omega), if_neg (by omega)]
      have hla2 : laN a2 = (t.1 : Int) := by rw [la_ok hck2 (by omega)]; omega
      have haok := hok a (by simp)
      have hok2 : OkE a2 (newL ts t.2) := by
        obtain ⟨s, f1, f2⟩ := haok.txt
        unfold MayN at hmay
        exact ⟨by unfold MayN; omega, hck2, by omega, s, by rw [b2]; exact f1, by rw [b3]; exact f2⟩
      have htx2 : txN a (catF (newL ts t.2)) = t.2 := by
        have hx : txN a (catF (newL ts t.2)) = txN e1 (catF (newL ts t.2)) := by unfold txN; rw [o2, o3]
        rw [hx]
        exact dtx
      have hrun2 : runN a2 (catF (newL ts t.2)) = runN a (catF (newL ts t.2)) ++ [t] := by
        have hx : txN a2 (catF (newL ts t.2)) = t.2 := by
          have hy : txN a2 (catF (newL ts t.2)) = txN a (catF (newL ts t.2)) := by unfold txN; rw [b2, b3]
          rw [hy]
          exact htx2
        unfold runN
        rw [hx, htx2, b4, b1, show (a.rn + 1).toNat = a.rn.toNat + 1 by omega, List.range_succ, List.map_append]
        congr 1
        simp only [List.map_cons, List.map_nil]
        congr 1
        refine Prod.ext ?_ rfl
        show a.id.toNat + a.rn.toNat = t.1
        unfold MayN at hmay
        omega
      refine ⟨hgood, ?_, hmem, ?_, ?_, ?_, ?_, ?_, ?_⟩
      · rw [List.length_append, List.length_singleton]; have := h.len; omega
      · intro e he
        rcases List.mem_append.1 he with he | he
        · exact hok e (by simp [he])
        · rw [List.mem_singleton.1 he]; exact hok2
      · exact rowG_snoc r a2 (-1) hrow hck2 (by rw [b1]; exact hpa)
      · rw [expN_append, expN_one] at hexp ⊢
        rw [hrun2, ← List.append_assoc, hexp]
      · exact noOne_last h.one ⟨b1, b2, b3⟩
      · have := h.few
        simp at this ⊢
        omega
      · intro r' x hx
        obtain ⟨_, hx2⟩ := List.append_inj' hx rfl
        simp at hx2
        subst hx2
        exact ⟨P, t, rfl, hla2⟩
    · have hone' : oneE a e1 = false := by simpa using hone
      rw [if_neg hone]
      refine ⟨hgood, ?_, hmem, ?_, ?_, ?_, ?_, ?_, ?_⟩
      · rw [List.length_append, List.length_singleton]; have := h.len; omega
      · intro e he
        rcases List.mem_append.1 he with he | he
        · exact hok e he
        · rw [List.mem_singleton.1 he]; exact dok
      · exact rowG_snoc (r ++ [a]) e1 (-1) h.row dck (by rw [fold_snoc]; omega)
      · rw [expN_append, hexp, expN_one, drun]
      · refine noOne_snoc h.one (fun r' x hx => ?_)
        obtain ⟨_, hx2⟩ := List.append_inj' hx rfl
        simp at hx2
        subst hx2
        exact hone'
      · have := h.few
        simp at this ⊢
        omega
      · intro r' x hx
        obtain ⟨_, hx2⟩ := List.append_inj' hx rfl
        simp at hx2
        subst hx2
        exact ⟨P, t, rfl, dla⟩
theorem rinv_take {L : List It} (hg : GoodC L) : ∀ k, k ≤ L.length → RInv (L.take k) (rowsS (L.take k)).1 (rowsS (L.take k)).2 := by
  intro k
  induction k with
  | zero => intro _; exact rinv_nil
  | succ k ih =>
    intro hk
    obtain ⟨t, ht⟩ : ∃ t, L[k]? = some t := ⟨_, List.getElem?_eq_getElem (by omega)⟩
    have hm := List.mem_of_getElem? ht
    rw [rowsS_step L k t ht, itake_at L k t ht]
    refine rinv_step (ih (by omega)) t (fun u hu => ?_) (hg.low t hm) (hg.pos t hm) (hg.short t hm) (by rw [List.length_take]; have := hg.few; omega)
    obtain ⟨j, hj⟩ := List.mem_iff_getElem?.1 hu
    rw [List.getElem?_take] at hj
    split at hj
    · rename_i hjk
      obtain ⟨h1, rfl⟩ := List.getElem?_eq_some_iff.1 hj
      obtain ⟨h2, rfl⟩ := List.getElem?_eq_some_iff.1 ht
      exact List.pairwise_iff_getElem.1 hg.rise j k h1 h2 hjk
    · cases hj
theorem rinv_all {L : List It} (hg : GoodC L) : RInv L (rowsS L).1 (rowsS L).2 := by
  have h := rinv_take hg L.length (Nat.le_refl _)
  rwa [List.take_length] at h
end Go.Proofs.Ytleicghfcffblaa
/- Plain: what entries tell of a text; a chart comes back of its entries. -/
namespace Go.Proofs.Ytleicghfcffblaa
set_option maxRecDepth 20000
set_option linter.unusedVariables false
set_option linter.unusedSimpArgs false
/-- Why entries tell no chart (from the first on), and what they tell. -/
def backG : List En → ByteArray → List It → Int → List It × Int
  | [], _, out, _ => (out, 0)
  | e :: l, d, out, m =>
    if e.rn = 0 then ([], 14) else if (d.size : Int) < e.off + e.ln then ([], 8) else if 2048 < m + e.rn then ([], 21) else if 65536 < e.ln then ([], 5)
    else backG l d (out ++ runN e d) (m + e.rn)
def backN (l : List En) (d : ByteArray) : List It × Int := if rowN l ≠ 0 then ([], rowN l) else backG l d [] 0
/-- What an entry must be to tell tiles. -/
structure TellE (e : En) (d : ByteArray) : Prop where
  run : e.rn ≠ 0
  inn : e.off + e.ln ≤ (d.size : Int)
  short : e.ln ≤ 65536
theorem backG_ok : ∀ (l : List En) (d : ByteArray) (out : List It) (m : Int), (∀ e ∈ l, TellE e d) → (∀ e ∈ l, 0 ≤ e.rn) → m + ((l.map (·.rn)).sum) ≤ 2048 → backG l d out m = (out ++ expN l d, 0)
  | [], d, out, m, _, _, _ => by simp [backG, expN]
  | e :: l, d, out, m, h, hr, hs => by
    have he := h e (by simp)
    have hsum : 0 ≤ (l.map (·.rn)).sum := by
      have key : ∀ l : List En, (∀ e ∈ l, 0 ≤ e.rn) → 0 ≤ (l.map (·.rn)).sum := by
        intro l
        induction l with
        | nil => intro _; simp
        | cons x l ih => intro hx; rw [List.map_cons, List.sum_cons]; have := ih (fun e he => hx e (by simp [he])); have := hx x (by simp); omega
      exact key l (fun x hx => hr x (by simp [hx]))
    rw [List.map_cons, List.sum_cons] at hs
    rw [backG, if_neg he.run, if_neg (by have := he.inn; omega), if_neg (by omega), if_neg (by have := he.short; omega), backG_ok l d _ _ (fun x hx => h x (by simp [hx])) (fun x hx => hr x (by simp [hx])) (by omega)]
    rw [List.append_assoc]
    rfl
/-- What entries are that tell a chart. -/
theorem backG_inv : ∀ (l : List En) (d : ByteArray) (out : List It) (m : Int) (C : List It), backG l d out m = (C, 0) → (∀ e ∈ l, TellE e d) ∧ C = out ++ expN l d ∧ (l = [] ∨ m + ((l.map (·.rn)).sum) ≤ 2048)
  | [], d, out, m, C, h => by
    rw [backG] at h
    cases h
    exact ⟨by simp, by simp [expN], .inl rfl⟩
  | e :: l, d, out, m, C, h => by
    rw [backG] at h
    by_cases h1 : e.rn = 0
    · rw [if_pos h1] at h; cases h
    rw [if_neg h1] at h
    by_cases h2 : (d.size : Int) < e.off + e.ln
    · rw [if_pos h2] at h; cases h
    rw [if_neg h2] at h
    by_cases h3 : 2048 < m + e.rn
    · rw [if_pos h3] at h; cases h
    rw [if_neg h3] at h
    by_cases h4 : 65536 < e.ln
    · rw [if_pos h4] at h; cases h
    rw [if_neg h4] at h
    obtain ⟨g1, g2, g3⟩ := backG_inv l d _ _ C h
    refine ⟨fun x hx => ?_, ?_, .inr ?_⟩
    · rcases List.mem_cons.1 hx with rfl | hx
      · exact ⟨h1, by omega, by omega⟩
      · exact g1 x hx
    · rw [g2, List.append_assoc]; rfl
    · rw [List.map_cons, List.sum_cons]
      rcases g3 with rfl | g3
      · simp; omega
      · omega
theorem exp_len (l : List En) (d : ByteArray) (h : ∀ e ∈ l, 0 ≤ e.rn) : ((expN l d).length : Int) = (l.map (·.rn)).sum := by
  induction l with
  | nil => rfl
  | cons e l ih =>
    have h1 := ih (fun x hx => h x (by simp [hx]))
    have h2 := h e (by simp)
    unfold expN at h1 ⊢
    rw [List.flatMap_cons, List.length_append, List.map_cons, List.sum_cons, runN_len]
    omega
theorem cnt_sum (l : List En) (h : ∀ e ∈ l, ckN e = 0) : cntN l = (l.map (·.rn)).sum := by
  unfold cntN
  congr 1
  refine List.map_congr_left (fun e he => ?_)
  rw [if_pos (h e he)]
/-- A chart comes back of its entries and its contents. -/
theorem back_whole {L : List It} (hg : GoodC L) : backN (rowsS L).1 (catF (rowsS L).2) = (L, 0) ∧ rowN (rowsS L).1 = 0 ∧ NoOne (rowsS L).1 ∧ cntN (rowsS L).1 = (L.length : Int) ∧ (rowsS L).1.length ≤ L.length ∧ (∀ e ∈ (rowsS L).1, OkE e (rowsS L).2) ∧ GoodP (rowsS L).2 := by
  have h := rinv_all hg
  have hr : ∀ e ∈ (rowsS L).1, 0 ≤ e.rn := fun e he => by have := (h.ok e he).run; omega
  have hs := exp_len (rowsS L).1 (catF (rowsS L).2) hr
  rw [h.exp] at hs
  have hf := hg.few
  have hrow : rowN (rowsS L).1 = 0 := by
    unfold rowN
    rw [if_neg (by have := h.few; omega)]
    exact h.row
  refine ⟨?_, hrow, h.one, ?_, h.few, h.ok, h.good⟩
  · unfold backN
    rw [if_neg (by simp [hrow]), backG_ok _ _ _ _ (fun e he => ?_) hr (by omega), h.exp]
    · rfl
    · have ho := h.ok e he
      obtain ⟨s, f1, f2⟩ := ho.txt
      have h1 := findF_le _ _ _ _ f1
      have h2 := h.good.short s ((findF_mem s _ 0).1 (by rw [f1]; rfl))
      have h3 := ho.may
      have h4 := ho.run
      unfold MayN at h3
      exact ⟨by omega, by rw [catF_size]; omega, by omega⟩
  · rw [cnt_sum _ (fun e he => (h.ok e he).ck), hs]
theorem enN_ge : ∀ (l : List En) (e : En), e ∈ l → ckN e = 0 → e.off + e.ln ≤ enN l := by
  intro l e he hc
  obtain ⟨a, b, rfl⟩ := List.append_of_mem he
  rw [show a ++ e :: b = (a ++ [e]) ++ b by simp, enN_append, enN_snoc, if_pos hc]
  omega
theorem enN_le : ∀ (l : List En) (M : Int), 0 ≤ M → (∀ e ∈ l, e.off + e.ln ≤ M) → enN l ≤ M := by
  intro l M hM
  refine snoc_ind (M := fun l => (∀ e ∈ l, e.off + e.ln ≤ M) → enN l ≤ M) (fun _ => hM) (fun l e ih h => ?_) l
  rw [enN_snoc]
  have h1 := ih (fun x hx => h x (by simp [hx]))
  have h2 := h e (by simp)
  split <;> omega
/-- The entry that tells of a text that a pool has. -/
theorem entry_of {L : List It} (hg : GoodC L) (s : ByteArray) (hs : s ∈ (rowsS L).2) : ∃ e ∈ (rowsS L).1, findF s (rowsS L).2 0 = some e.off.toNat ∧ e.ln = (s.size : Int) := by
  have h := rinv_all hg
  obtain ⟨t, ht, rfl⟩ := (h.mem s).1 hs
  rw [← h.exp] at ht
  unfold expN at ht
  obtain ⟨e, he, hte⟩ := List.mem_flatMap.1 ht
  obtain ⟨k, hk, rfl⟩ := (mem_runN e _ t).1 hte
  obtain ⟨s, f1, f2⟩ := (h.ok e he).txt
  have := ok_text f1 f2
  refine ⟨e, he, ?_, ?_⟩
  · show findF (txN e _) _ 0 = _
    rw [this]; exact f1
  · show _ = ((txN e _).size : Int)
    rw [this]; exact f2
theorem end_whole {L : List It} (hg : GoodC L) : enN (rowsS L).1 = (totF (rowsS L).2 : Int) := by
  have h := rinv_all hg
  have h1 : enN (rowsS L).1 ≤ (totF (rowsS L).2 : Int) := enN_le _ _ (by omega) (fun e he => by
    obtain ⟨s, f1, f2⟩ := (h.ok e he).txt
    have h1 := findF_le _ _ _ _ f1
    have h3 := (h.ok e he).may
    unfold MayN at h3
    omega)
  rcases List.eq_nil_or_concat (rowsS L).2 with hn | ⟨ts, s, hn⟩
  · rw [hn] at h1 ⊢
    have := enN_nonneg (rowsS L).1
    simp [totF] at h1 ⊢
    omega
  · rw [List.concat_eq_append] at hn
    obtain ⟨e, he, f1, f2⟩ := entry_of hg s (by rw [hn]; simp)
    have hpos : (rowsS L).2[ts.length]? = some s := by rw [hn]; simp
    rw [findF_at _ _ _ hpos h.good.once] at f1
    have h3 := (h.ok e he).may
    unfold MayN at h3
    have h4 := enN_ge _ e he (h.ok e he).ck
    have h5 : totF (rowsS L).2 = totF ts + s.size := by rw [hn, totF_append, totF_one]
    have h6 : ((rowsS L).2.take ts.length) = ts := by rw [hn]; simp
    rw [h6] at f1
    injection f1 with f1
    omega
end Go.Proofs.Ytleicghfcffblaa
/- Plain: how many contents entries tell of; which tiles; what entries tell is a chart, and its own entries are not more. -/
namespace Go.Proofs.Ytleicghfcffblaa
set_option maxRecDepth 20000
set_option linter.unusedVariables false
set_option linter.unusedSimpArgs false
theorem unl_map {α β : Type} [DecidableEq α] [DecidableEq β] (f : α → β) (l : List α) : unl (l.map f) ≤ unl l := by
  unfold unl
  refine Nat.le_trans (nodup_len (b := (ded l).map f) (nodup_ded _) (fun x hx => ?_)) (by rw [List.length_map]; exact Nat.le_refl _)
  obtain ⟨a, ha, rfl⟩ := List.mem_map.1 ((mem_ded x _).1 hx)
  exact List.mem_map.2 ⟨a, (mem_ded a l).2 ha, rfl⟩
/-- Where a text of a pool stands, and its length. -/
def spotF (ts : List ByteArray) (s : ByteArray) : Int × Int := ((offV (findF s ts 0) : Int), (s.size : Int))
theorem spot_inj {ts : List ByteArray} {s t : ByteArray} (hs : s ∈ ts) (ht : t ∈ ts) (h : spotF ts s = spotF ts t) : s = t := by
  obtain ⟨k, hk⟩ := Option.isSome_iff_exists.1 ((findF_mem s ts 0).2 hs)
  obtain ⟨j, hj⟩ := Option.isSome_iff_exists.1 ((findF_mem t ts 0).2 ht)
  unfold spotF at h
  rw [hk, hj] at h
  injection h with h1 h2
  have e1 : k = j := by
    have h3 : ((k : Nat) : Int) = ((j : Nat) : Int) := h1
    omega
  have e2 : s.size = t.size := by omega
  have a := cat_found ts s 0 k hk
  have b := cat_found ts t 0 j hj
  rw [e1, e2] at a
  exact a.symm.trans b
theorem con_whole {L : List It} (hg : GoodC L) : conN (rowsS L).1 = (rowsS L).2.length := by
  have h := rinv_all hg
  have hn : ((rowsS L).2.map (spotF (rowsS L).2)).Nodup := by
    refine List.pairwise_iff_getElem.2 (fun i j hi hj hij => ?_)
    rw [List.length_map] at hi hj
    rw [List.getElem_map, List.getElem_map]
    intro e
    have := spot_inj (List.getElem_mem hi) (List.getElem_mem hj) e
    exact (List.pairwise_iff_getElem.1 h.good.once i j hi hj hij) this
  unfold conN
  rw [unl_eq (b := (rowsS L).2.map (spotF (rowsS L).2)) (fun q => ?_), unl_nodup hn, List.length_map]
  rw [mem_pairN, List.mem_map]
  constructor
  · rintro ⟨e, he, _, _, h1, h2⟩
    obtain ⟨s, f1, f2⟩ := (h.ok e he).txt
    have hm := (h.ok e he).may
    unfold MayN at hm
    refine ⟨s, (findF_mem s _ 0).1 (by rw [f1]; rfl), ?_⟩
    unfold spotF
    rw [f1]
    refine Prod.ext ?_ ?_
    · show ((offV (some e.off.toNat) : Nat) : Int) = q.1
      show ((e.off.toNat : Nat) : Int) = q.1
      omega
    · show (s.size : Int) = q.2
      omega
  · rintro ⟨s, hs, rfl⟩
    obtain ⟨e, he, f1, f2⟩ := entry_of hg s hs
    have hm := (h.ok e he).may
    unfold MayN at hm
    refine ⟨e, he, (h.ok e he).ck, by have := (h.ok e he).run; omega, ?_, f2⟩
    show e.off = ((offV (findF s (rowsS L).2 0) : Nat) : Int)
    rw [f1]
    show e.off = ((e.off.toNat : Nat) : Int)
    omega
theorem texts_whole {L : List It} (hg : GoodC L) : unl (L.map (·.2)) = (rowsS L).2.length := by
  have h := rinv_all hg
  rw [unl_eq (b := (rowsS L).2) (fun s => ?_), unl_nodup h.good.once]
  rw [List.mem_map, h.mem]
/-- An entry has an identifier just if a tile of it has. -/
theorem has_run (e : En) (d : ByteArray) (hm : MayN e) (hc : ckN e = 0) (id : Nat) : hasN e (id : Int) = true ↔ ∃ t ∈ runN e d, t.1 = id := by
  rw [has_iff]
  unfold MayN at hm
  constructor
  · rintro ⟨_, h1, h2, h3⟩
    rw [la_ok hc (by omega)] at h3
    exact ⟨_, (mem_runN e d _).2 ⟨id - e.id.toNat, by omega, rfl⟩, by show e.id.toNat + (id - e.id.toNat) = id; omega⟩
  · rintro ⟨t, ht, rfl⟩
    obtain ⟨k, hk, rfl⟩ := (mem_runN e d t).1 ht
    rw [la_ok hc (by omega)]
    refine ⟨hc, by omega, ?_, ?_⟩
    · show e.id ≤ ((e.id.toNat + k : Nat) : Int); omega
    · show ((e.id.toNat + k : Nat) : Int) ≤ _; omega
theorem tell_pos (l : List En) (d : Int) : 1 ≤ tellN l d ↔ ∃ e ∈ l, hasN e d = true := by
  unfold tellN
  constructor
  · intro h
    obtain ⟨e, he⟩ := List.exists_mem_of_length_pos (l := l.filter fun e => hasN e d) (by omega)
    rw [List.mem_filter] at he
    exact ⟨e, he.1, he.2⟩
  · rintro ⟨e, he, hh⟩
    exact List.length_pos_of_mem (List.mem_filter.2 ⟨he, hh⟩)
theorem tell_exp {l : List En} {d : ByteArray} (hm : ∀ e ∈ l, MayN e) (hc : ∀ e ∈ l, ckN e = 0) (hr : rowG (-1) l = 0) (id : Nat) : tellN l (id : Int) ≤ 1 ∧ (tellN l (id : Int) = 1 ↔ (getI id (expN l d)).isSome = true) := by
  have h1 := tell_once (-1) l (id : Int) hm hr
  refine ⟨h1, ?_⟩
  have h2 := tell_pos l (id : Int)
  rw [getI_some]
  constructor
  · intro h
    obtain ⟨e, he, hh⟩ := h2.1 (by omega)
    obtain ⟨t, ht, hid⟩ := (has_run e d (hm e he) (hc e he) id).1 hh
    exact ⟨t, List.mem_flatMap.2 ⟨e, he, ht⟩, hid⟩
  · rintro ⟨t, ht, hid⟩
    obtain ⟨e, he, hte⟩ := List.mem_flatMap.1 ht
    have := h2.2 ⟨e, he, (has_run e d (hm e he) (hc e he) id).2 ⟨t, hte, hid⟩⟩
    omega
/-- What entries tell is a chart. -/
theorem exp_good {l : List En} {d : ByteArray} (hm : ∀ e ∈ l, MayN e) (hr : rowG (-1) l = 0) (ht : ∀ e ∈ l, TellE e d) (hs : (l.map (·.rn)).sum ≤ 2048) : GoodC (expN l d) := by
  have hc : ∀ e ∈ l, ckN e = 0 := fun e he => (rowG_above (-1) l hm hr e he).2
  have hlen := exp_len l d (fun e he => (hm e he).2.2.2.1)
  have hmem : ∀ t ∈ expN l d, ∃ e ∈ l, ∃ k, k < e.rn.toNat ∧ t = (e.id.toNat + k, txN e d) := fun t h => by
    obtain ⟨e, he, hte⟩ := List.mem_flatMap.1 h
    exact ⟨e, he, (mem_runN e d t).1 hte⟩
  have hsz : ∀ e ∈ l, (txN e d).size = e.ln.toNat := fun e he => by
    have h1 := ht e he
    have h2 := hm e he
    unfold MayN at h2
    have h3 := h1.inn
    unfold txN
    rw [ByteArray.size_extract]
    omega
  refine ⟨?_, fun t h => ?_, fun t h => ?_, fun t h => ?_, by omega⟩
  · have key : ∀ (l : List En) (p : Int), (∀ e ∈ l, MayN e) → rowG p l = 0 → Rise (expN l d) ∧ ∀ t ∈ expN l d, p < (t.1 : Int) := by
      intro l
      induction l with
      | nil => intro p _ _; exact ⟨List.Pairwise.nil, by simp [expN]⟩
      | cons e l ih =>
        intro p hm hr
        obtain ⟨g1, g2, g3⟩ := rowG_cons p e l hr
        obtain ⟨i1, i2⟩ := ih (laN e) (fun x hx => hm x (by simp [hx])) g3
        have hme := hm e (by simp)
        have hla := la_ge e hme g1
        unfold MayN at hme
        have hup : ∀ t ∈ runN e d, e.id ≤ (t.1 : Int) ∧ (t.1 : Int) ≤ laN e := fun t h => by
          obtain ⟨k, hk, rfl⟩ := (mem_runN e d t).1 h
          rw [la_ok g1 (by omega)]
          refine ⟨?_, ?_⟩
          · show e.id ≤ ((e.id.toNat + k : Nat) : Int); omega
          · show ((e.id.toNat + k : Nat) : Int) ≤ _; omega
        have e0 : expN (e :: l) d = runN e d ++ expN l d := by simp [expN]
        rw [e0]
        refine ⟨?_, fun t h => ?_⟩
        · unfold Rise at i1 ⊢
          rw [List.pairwise_append]
          refine ⟨?_, i1, fun a ha b hb => ?_⟩
          · unfold runN
            rw [List.pairwise_map]
            refine List.Pairwise.imp (fun {a b} h => ?_) List.pairwise_lt_range
            show e.id.toNat + a < e.id.toNat + b
            omega
          · have := hup a ha
            have := i2 b hb
            omega
        · rcases List.mem_append.1 h with h | h
          · have := hup t h; omega
          · have := i2 t h; omega
    exact (key l (-1) hm hr).1
  · obtain ⟨e, he, k, hk, rfl⟩ := hmem t h
    have h1 := ck_ok e (hc e he)
    have h2 := hm e he
    unfold MayN at h2
    have h3 := (ht e he).run
    unfold wdN at h1
    rw [if_neg h3] at h1
    show e.id.toNat + k < _
    omega
  · obtain ⟨e, he, k, hk, rfl⟩ := hmem t h
    have h1 := (ck_ok e (hc e he)).1
    have h2 := hm e he
    unfold MayN at h2
    show 0 < (txN e d).size
    rw [hsz e he]
    omega
  · obtain ⟨e, he, k, hk, rfl⟩ := hmem t h
    have h2 := (ht e he).short
    show (txN e d).size ≤ _
    rw [hsz e he]
    omega
end Go.Proofs.Ytleicghfcffblaa
/- Plain: a chart's own entries are not more than any that tell of it. -/
namespace Go.Proofs.Ytleicghfcffblaa
set_option maxRecDepth 20000
set_option linter.unusedVariables false
set_option linter.unusedSimpArgs false
theorem addE_len (rows : List En) (e : En) : (addE rows e).length ≤ rows.length + 1 := by
  rcases List.eq_nil_or_concat rows with rfl | ⟨r, a, rfl⟩
  · rw [addE_nil]; simp
  · rw [List.concat_eq_append, addE_concat]
    split <;> simp
/-- A tile behind its like makes no entry more. -/
theorem addE_like {rows : List En} {ts : List ByteArray} {P : List It} {t : It} (h : RInv (P ++ [t]) rows ts) (u : It) (hid : u.1 = t.1 + 1) (htx : u.2 = t.2) (h0 : 0 < u.2.size) (h1 : u.2.size ≤ 65536) (hl : ts.length < 2048) : (addE rows (newE ts u)).length = rows.length := by
  rcases List.eq_nil_or_concat rows with rfl | ⟨r, a, rfl⟩
  · have := h.exp
    simp [expN] at this
  · rw [List.concat_eq_append] at *
    obtain ⟨P', t0, hP, hla⟩ := h.last r a rfl
    obtain ⟨_, ht0⟩ := List.append_inj' hP rfl
    simp at ht0
    subst ht0
    have ha := h.ok a (by simp)
    obtain ⟨s, f1, f2⟩ := ha.txt
    have hs : s = t.2 := by
      have he := h.exp
      rw [expN_append, expN_one] at he
      have hr := ha.run
      unfold runN at he
      rw [show a.rn.toNat = (a.rn.toNat - 1) + 1 by omega, List.range_succ, List.map_append, ← List.append_assoc] at he
      obtain ⟨_, h3⟩ := List.append_inj' he rfl
      simp at h3
      rw [← h3]
      exact (ok_text f1 f2).symm
    obtain ⟨g1, g2⟩ := new_place h0 h1 hl
    have hm : u.2 ∈ ts := by
      rw [htx, ← hs]
      exact (findF_mem s ts 0).1 (by rw [f1]; rfl)
    have hoff : (offA ts u.2 : Int) = a.off := by
      have hf := find_grow ts s u.2 _ f1
      rw [hs, ← htx, g2] at hf
      injection hf with hf
      have hma := ha.may
      unfold MayN at hma
      omega
    rw [addE_concat, if_pos]
    · simp
    · unfold oneE
      rw [decide_eq_true_eq]
      refine ⟨?_, ?_, ?_⟩
      · show ((u.1 : Nat) : Int) = laN a + 1
        omega
      · exact hoff.symm
      · show a.ln = ((lenA ts u.2 : Nat) : Int)
        rw [g1, f2, hs, htx]
/-- The chart's own entries, tile by tile, are not more than those that are gone through. -/
theorem rows_few {C : List It} (hg : GoodC C) (d : ByteArray) : ∀ (l : List En) (P R : List It), C = P ++ expN l d ++ R → (∀ e ∈ l, TellE e d) → (∀ e ∈ l, MayN e) → (rowsS (P ++ expN l d)).1.length ≤ (rowsS P).1.length + l.length := by
  intro l
  induction l with
  | nil => intro P R _ _ _; simp [expN]
  | cons e l ih =>
    intro P R hC ht hm
    have e0 : expN (e :: l) d = runN e d ++ expN l d := by simp [expN]
    rw [e0, ← List.append_assoc] at hC ⊢
    have h1 := ih (P ++ runN e d) R hC (fun x hx => ht x (by simp [hx])) (fun x hx => hm x (by simp [hx]))
    have key : ∀ n, n ≤ e.rn.toNat → (rowsS (P ++ (runN e d).take n)).1.length ≤ (rowsS P).1.length + (if n = 0 then 0 else 1) := by
      intro n
      induction n with
      | zero => intro _; simp
      | succ n ihn =>
        intro hn
        have hat : (runN e d)[n]? = some (e.id.toNat + n, txN e d) := by
          unfold runN
          rw [List.getElem?_map, List.getElem?_range (by omega)]
          rfl
        have hcut : ∀ k, k ≤ e.rn.toNat → ∃ j, j ≤ C.length ∧ C.take j = P ++ (runN e d).take k := fun k hk => by
          refine ⟨P.length + k, ?_, ?_⟩
          · rw [hC]; simp [runN_len]; omega
          · rw [hC, List.append_assoc, List.append_assoc, List.take_append, List.take_of_length_le (by omega), Nat.add_sub_cancel_left, List.take_append_of_le_length (by rw [runN_len]; exact hk)]
        rw [itake_at _ n _ hat, ← List.append_assoc, rowsS_snoc]
        rcases Nat.eq_zero_or_pos n with h0 | h0
        · subst h0
          have := addE_len (rowsS (P ++ (runN e d).take 0)).1 (newE (rowsS (P ++ (runN e d).take 0)).2 (e.id.toNat + 0, txN e d))
          simp at this ⊢
          exact this
        · have hi := ihn (by omega)
          rw [if_neg (by omega)] at hi
          rw [if_neg (by omega)]
          obtain ⟨m, rfl⟩ : ∃ m, n = m + 1 := ⟨n - 1, by omega⟩
          have hat0 : (runN e d)[m]? = some (e.id.toNat + m, txN e d) := by
            unfold runN
            rw [List.getElem?_map, List.getElem?_range (by omega)]
            rfl
          obtain ⟨j, hj, hcj⟩ := hcut (m + 1) (by omega)
          obtain ⟨j2, hj2, hcj2⟩ := hcut (m + 1 + 1) (by omega)
          have hri := rinv_take hg j hj
          rw [hcj] at hri
          have hlen : (rowsS (P ++ (runN e d).take (m + 1))).2.length < 2048 := by
            have h3 := hri.len
            have h4 := congrArg List.length hcj2
            have h5 := hg.few
            rw [List.length_take, List.length_append, List.length_take, runN_len] at h4
            rw [List.length_append, List.length_take, runN_len] at h3
            omega
          have hmem : (e.id.toNat + (m + 1), txN e d) ∈ C := by
            rw [hC]
            simp only [List.mem_append]
            exact .inl (.inl (.inr (List.mem_of_getElem? hat)))
          have hx : (stepR (rowsS (P ++ (runN e d).take (m + 1))) (e.id.toNat + (m + 1), txN e d)).1.length = (rowsS (P ++ (runN e d).take (m + 1))).1.length := by
            have hri2 := hri
            rw [itake_at _ m _ hat0, ← List.append_assoc] at hri2
            have := addE_like hri2 (e.id.toNat + (m + 1), txN e d) (by show e.id.toNat + (m + 1) = e.id.toNat + m + 1; omega) rfl (hg.pos _ hmem) (hg.short _ hmem) (by rw [itake_at _ m _ hat0, ← List.append_assoc] at hlen; exact hlen)
            rw [itake_at _ m _ hat0, ← List.append_assoc]
            exact this
          rw [hx]
          exact hi
    have h2 := key e.rn.toNat (Nat.le_refl _)
    rw [List.take_of_length_le (by rw [runN_len]; exact Nat.le_refl _)] at h2
    rw [List.length_cons]
    split at h2 <;> omega
theorem few_rows {l : List En} {d : ByteArray} (hg : GoodC (expN l d)) (ht : ∀ e ∈ l, TellE e d) (hm : ∀ e ∈ l, MayN e) : (rowsS (expN l d)).1.length ≤ l.length := by
  have h := rows_few hg d l [] [] (by simp) ht hm
  rw [List.nil_append] at h
  have h0 : (rowsS []).1.length = 0 := rfl
  omega
theorem few_bytes (L : List It) : totF (rowsS L).2 ≤ bytesI L := by
  refine snoc_ind (M := fun L => totF (rowsS L).2 ≤ bytesI L) (Nat.le_refl _) (fun L t ih => ?_) L
  rw [rowsS_snoc, bytesI_append]
  have h1 := newL_tot (rowsS L).2 t.2
  have h2 : bytesI [t] = t.2.size := by simp [bytesI]
  show totF (newL (rowsS L).2 t.2) ≤ _
  omega
theorem few_con {l : List En} {d : ByteArray} (hg : GoodC (expN l d)) (hm : ∀ e ∈ l, MayN e) (hc : ∀ e ∈ l, ckN e = 0) : conN (rowsS (expN l d)).1 ≤ conN l := by
  rw [con_whole hg, ← texts_whole hg]
  refine Nat.le_trans (unl_le (b := (pairN l).map (fun q => d.extract q.1.toNat (q.1.toNat + q.2.toNat))) (fun s hs => ?_)) (unl_map _ _)
  obtain ⟨t, ht, rfl⟩ := List.mem_map.1 hs
  obtain ⟨e, he, hte⟩ := List.mem_flatMap.1 ht
  obtain ⟨k, hk, rfl⟩ := (mem_runN e d t).1 hte
  refine List.mem_map.2 ⟨(e.off, e.ln), (mem_pairN l _).2 ⟨e, he, hc e he, by omega, rfl, rfl⟩, rfl⟩
end Go.Proofs.Ytleicghfcffblaa
/- Plain: what MergeFew and MergeWhole want of entries, in one place each. -/
namespace Go.Proofs.Ytleicghfcffblaa
set_option maxRecDepth 20000
set_option linter.unusedVariables false
set_option linter.unusedSimpArgs false
theorem backG_err : ∀ (l : List En) (d : ByteArray) (out : List It) (m : Int), (backG l d out m).2 ≠ 0 → (backG l d out m).1 = []
  | [], d, out, m, h => by rw [backG] at h; exact absurd rfl h
  | e :: l, d, out, m, h => by
    rw [backG] at h ⊢
    by_cases h1 : e.rn = 0
    · rw [if_pos h1]
    rw [if_neg h1] at h ⊢
    by_cases h2 : (d.size : Int) < e.off + e.ln
    · rw [if_pos h2]
    rw [if_neg h2] at h ⊢
    by_cases h3 : 2048 < m + e.rn
    · rw [if_pos h3]
    rw [if_neg h3] at h ⊢
    by_cases h4 : 65536 < e.ln
    · rw [if_pos h4]
    rw [if_neg h4] at h ⊢
    exact backG_err l d _ _ h
theorem backN_err {l : List En} {d : ByteArray} (h : (backN l d).2 ≠ 0) : (backN l d).1 = [] := by
  unfold backN at h ⊢
  split
  · rfl
  · rename_i h1
    rw [if_neg h1] at h
    exact backG_err l d _ _ h
theorem back_few {l : List En} {d : ByteArray} {C : List It} (hm : ∀ e ∈ l, MayN e) (h : backN l d = (C, 0)) :
    GoodC C ∧ backN (rowsS C).1 (catF (rowsS C).2) = (C, 0) ∧ (rowsS C).1.length ≤ l.length ∧ totF (rowsS C).2 ≤ bytesI C ∧ conN (rowsS C).1 ≤ conN l ∧ cntN l = (C.length : Int) ∧ ∀ e ∈ (rowsS C).1, MayN e := by
  unfold backN at h
  by_cases h0 : rowN l ≠ 0
  · rw [if_pos h0] at h
    injection h with _ h2
    exact absurd h2 h0
  · rw [if_neg h0] at h
    have h0 : rowN l = 0 := by simpa using h0
    have hrow : rowG (-1) l = 0 := by
      unfold rowN at h0
      split at h0
      · omega
      · exact h0
    obtain ⟨g1, g2, g3⟩ := backG_inv l d [] 0 C h
    rw [List.nil_append] at g2
    have hs : (l.map (·.rn)).sum ≤ 2048 := by
      rcases g3 with rfl | g3
      · simp
      · omega
    have hgood : GoodC C := by rw [g2]; exact exp_good hm hrow g1 hs
    have hck : ∀ e ∈ l, ckN e = 0 := fun e he => (rowG_above (-1) l hm hrow e he).2
    have hw := back_whole hgood
    refine ⟨hgood, hw.1, ?_, few_bytes C, ?_, ?_, fun e he => (hw.2.2.2.2.2.1 e he).may⟩
    · rw [g2] at hgood ⊢
      exact few_rows hgood g1 hm
    · rw [g2] at hgood ⊢
      exact few_con hgood hm hck
    · rw [cnt_sum l hck, g2]
      exact (exp_len l d (fun e he => (hm e he).2.2.2.1)).symm
end Go.Proofs.Ytleicghfcffblaa
/- Plain: a tally of texts, as a map reads; what the texts that are new come to. -/
namespace Go.Proofs.Ytleicghfcffblaa
open Go.Maps
set_option maxRecDepth 20000
set_option linter.unusedVariables false
set_option linter.unusedSimpArgs false
def klS (s : ByteArray) : Lit := .string s.data.toList
theorem klS_inj {s t : ByteArray} (h : klS s = klS t) : s = t := by
  unfold klS at h
  injection h with h
  have := Array.toList_inj.1 h
  cases s; cases t; cases this; rfl
theorem klS_key (s : ByteArray) : WideAt.IsKeyLit (klS s) := trivial
def numS (s : ByteArray) : List ByteArray → Nat
  | [] => 0
  | t :: l => (if t = s then 1 else 0) + numS s l
theorem numS_append (s : ByteArray) (a b : List ByteArray) : numS s (a ++ b) = numS s a + numS s b := by
  induction a with
  | nil => simp [numS]
  | cons t a ih => rw [List.cons_append, numS, numS, ih]; omega
theorem numS_zero (s : ByteArray) (l : List ByteArray) : numS s l = 0 ↔ s ∉ l := by
  induction l with
  | nil => simp [numS]
  | cons t l ih =>
    rw [numS, List.mem_cons]
    by_cases h : t = s
    · subst h
      simp
    · rw [if_neg h, Nat.zero_add, ih]
      constructor
      · rintro h1 (rfl | h2)
        · exact h rfl
        · exact h1 h2
      · exact fun h1 h2 => h1 (.inr h2)
theorem numS_len (s : ByteArray) (l : List ByteArray) : numS s l ≤ l.length := by
  induction l with
  | nil => simp [numS]
  | cons t l ih => rw [numS, List.length_cons]; split <;> omega
structure Tal (D : DataW Unit) (xs : List ByteArray) : Prop where
  tidy : Tidy D
  size : Maps.size D = unl xs
  has : ∀ s, Maps.has D (klS s) = true ↔ s ∈ xs
  num : ∀ s, D.atKey (klS s) (.lit (.int .i64 0)) = .lit (.int .i64 (numS s xs : Nat))
theorem tal_nil : Tal (.map []) [] := ⟨tidy_empty, rfl, fun s => by simp [Maps.has], fun s => by simp [DataW.atKey, numS]⟩
theorem Tal.put {D : DataW Unit} {xs : List ByteArray} (h : Tal D xs) (s : ByteArray) : Tal (D.put (klS s) (.lit (.int .i64 ((numS s xs : Nat) + 1)))) (xs ++ [s]) := by
  refine ⟨h.tidy.put (klS_key s) _, ?_, fun t => ?_, fun t => ?_⟩
  · rw [size_put h.tidy, h.size, unl_snoc]
    by_cases hm : s ∈ xs
    · rw [if_pos hm, if_pos ((h.has s).2 hm)]
    · rw [if_neg hm, if_neg (fun f => hm ((h.has s).1 f))]
  · by_cases e : t = s
    · subst e
      rw [has_put_same h.tidy.isMap (klS_key t)]
      simp
    · rw [has_put_other (fun f => e (klS_inj f)), h.has]
      simp [e]
  · by_cases e : t = s
    · subst e
      rw [atKey_put_same h.tidy.isMap (klS_key t), numS_append]
      simp [numS]
    · have e' : ¬ s = t := fun f => e f.symm
      rw [atKey_put_other (fun f => e (klS_inj f)), h.num, numS_append]
      simp [numS, e']
theorem tot_step {L : List It} (hg : GoodC L) (k : Nat) (t : It) (ht : L[k]? = some t) : totF (rowsS (L.take (k + 1))).2 = totF (rowsS (L.take k)).2 + (if numS t.2 ((L.take k).map (·.2)) = 0 then t.2.size else 0) := by
  have hk : k < L.length := (List.getElem?_eq_some_iff.1 ht).1
  have hm := List.mem_of_getElem? ht
  have h := rinv_take hg k (by omega)
  have hl : (rowsS (L.take k)).2.length < 2048 := by
    have h1 := h.len
    have h2 := hg.few
    rw [List.length_take] at h1
    omega
  rw [rowsS_step L k t ht]
  show totF (newL (rowsS (L.take k)).2 t.2) = _
  have hi : t.2 ∈ (rowsS (L.take k)).2 ↔ t.2 ∈ (L.take k).map (·.2) := by rw [h.mem, List.mem_map]
  unfold newL
  by_cases hin : t.2 ∈ (L.take k).map (·.2)
  · have hn : ¬ isNew (rowsS (L.take k)).2 t.2 = true := fun f => ((isNew_iff _ _).1 f).2.2.1 (hi.2 hin)
    rw [if_neg hn, if_neg (fun f => (numS_zero _ _).1 f hin)]
    omega
  · have hn : isNew (rowsS (L.take k)).2 t.2 = true := (isNew_iff _ _).2 ⟨hg.pos t hm, hg.short t hm, fun f => hin (hi.1 f), hl⟩
    rw [if_pos hn, if_pos ((numS_zero _ _).2 hin), totF_append, totF_one]
theorem tot_le {L : List It} (hg : GoodC L) (k : Nat) (hk : k ≤ L.length) : totF (rowsS (L.take k)).2 ≤ 134217728 := (rinv_take hg k hk).good.tot
theorem tell13_snoc (l : List En) (e : En) (d : Int) : tellN (l ++ [e]) d = tellN l d + (if hasN e d = true then 1 else 0) := by
  unfold tellN
  rw [List.filter_append, List.length_append]
  congr 1
  by_cases h : hasN e d = true <;> simp [h]
theorem tell13_le (l : List En) (d : Int) : tellN l d ≤ l.length := List.length_filter_le _ _
/-- What stands in a cell of a world is no map. -/
theorem cell_no_map {w : World} {p : Addr} {v : Value} {P : Program} {k : TypeId} {R : Value → Option (DataW Unit × List MemPlace)} {b n : Nat} {D : DataW Unit} (h : w.cell? p = some v) (hm : w.ownsMap P k R b n D) : p.block ≠ b := by
  rintro rfl
  obtain ⟨es, clock, hb, _⟩ := hm
  unfold World.cell? at h
  rw [hb] at h
  simp at h
end Go.Proofs.Ytleicghfcffblaa
