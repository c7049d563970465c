/- Plain: a row in pieces, the root over them, how it is split, what a root and its leaves are together. No Go in sight. -/
import Derived.Test.YtbkodaijigcebaaMH
import Derived.Test.YtbkodaijigcebaaMS
namespace Go.Proofs.Ytbkodaijigcebaa
set_option maxRecDepth 20000
set_option linter.unusedVariables false
set_option linter.unusedSimpArgs false
/-! ### Pieces -/
def cutF (n : Nat) : Nat → List En → List (List En)
  | 0, _ => []
  | f + 1, l => if l = [] then [] else l.take n :: cutF n f (l.drop n)
/-- A row in pieces of n entries. -/
def cutN (n : Nat) (l : List En) : List (List En) := cutF n l.length l
theorem cutF_up (n : Nat) (hn : 1 ≤ n) (d : Nat) : ∀ (g : Nat) (m : List En), m.length ≤ g → cutF n (g + d) m = cutF n g m := by
  intro g
  induction g with
  | zero => intro m hm; rw [List.eq_nil_of_length_eq_zero (Nat.le_zero.1 hm)]; cases d <;> simp [cutF]
  | succ g ihg =>
    intro m hm
    cases m with
    | nil => rw [show g + 1 + d = (g + d) + 1 by omega]; simp [cutF]
    | cons x m =>
      rw [show g + 1 + d = (g + d) + 1 by omega, cutF, cutF, if_neg (by simp), if_neg (by simp), ihg]
      rw [List.length_cons] at hm
      rw [List.length_drop, List.length_cons]
      omega
theorem cutF_more (n : Nat) (hn : 1 ≤ n) (f : Nat) (l : List En) (h : l.length ≤ f) : cutF n f l = cutF n l.length l := by
  have := cutF_up n hn (f - l.length) l.length l (Nat.le_refl _)
  rwa [show l.length + (f - l.length) = f by omega] at this
theorem cutN_nil (n : Nat) : cutN n [] = [] := rfl
theorem cutN_step (n : Nat) (hn : 1 ≤ n) (l : List En) (h : l ≠ []) : cutN n l = l.take n :: cutN n (l.drop n) := by
  unfold cutN
  cases l with
  | nil => exact absurd rfl h
  | cons e l =>
    rw [List.length_cons, cutF, if_neg h, cutF_more n hn l.length ((e :: l).drop n) (by rw [List.length_drop, List.length_cons]; omega)]
theorem cutN_last (n : Nat) (hn : 1 ≤ n) (l : List En) (h : l ≠ []) (hl : l.length ≤ n) : cutN n l = [l] := by
  rw [cutN_step n hn l h, List.take_of_length_le hl, List.drop_of_length_le hl, cutN_nil]
/-- By pieces. -/
theorem cut_ind {M : List En → Prop} (n : Nat) (hn : 1 ≤ n) (h0 : M []) (hs : ∀ l, l ≠ [] → M (l.drop n) → M l) (l : List En) : M l := by
  have key : ∀ (k : Nat) (l : List En), l.length ≤ k → M l := by
    intro k
    induction k with
    | zero => intro l hl; rw [List.eq_nil_of_length_eq_zero (Nat.le_zero.1 hl)]; exact h0
    | succ k ih =>
      intro l hl
      by_cases h : l = []
      · rw [h]; exact h0
      · have : 0 < l.length := List.length_pos_iff.2 h
        exact hs l h (ih _ (by rw [List.length_drop]; omega))
  exact key l.length l (Nat.le_refl _)
theorem cut_flat (n : Nat) (hn : 1 ≤ n) (l : List En) : (cutN n l).flatten = l := by
  refine cut_ind (M := fun l => (cutN n l).flatten = l) n hn rfl (fun l h ih => ?_) l
  rw [cutN_step n hn l h, List.flatten_cons, ih, List.take_append_drop]
theorem cut_mem (n : Nat) (hn : 1 ≤ n) (l : List En) : ∀ p ∈ cutN n l, p ≠ [] ∧ p.length ≤ n := by
  refine cut_ind (M := fun l => ∀ p ∈ cutN n l, p ≠ [] ∧ p.length ≤ n) n hn (by simp [cutN_nil]) (fun l h ih => ?_) l
  rw [cutN_step n hn l h]
  intro p hp
  rcases List.mem_cons.1 hp with rfl | hp
  · refine ⟨fun e => h ?_, by rw [List.length_take]; omega⟩
    have := congrArg List.length e
    rw [List.length_take, List.length_nil] at this
    have := List.length_pos_iff.2 h
    omega
  · exact ih p hp
theorem cut_len (n : Nat) (hn : 1 ≤ n) (l : List En) : (cutN n l).length ≤ l.length := by
  refine cut_ind (M := fun l => (cutN n l).length ≤ l.length) n hn (by simp [cutN_nil]) (fun l h ih => ?_) l
  rw [cutN_step n hn l h, List.length_cons]
  have := List.length_pos_iff.2 h
  rw [List.length_drop] at ih
  omega
/-! ### The root and the leaves -/
/-- The bytes of the pieces, one behind the other. -/
def textsI (ps : List (List En)) : List Int := ps.flatMap textI
/-- The pointers to the pieces, whose bytes begin at o. -/
def rootsN : Nat → List (List En) → List En
  | _, [] => []
  | o, p :: ps => ⟨(gS p 0).id, o, (textI p).length, 0⟩ :: rootsN (o + (textI p).length) ps
theorem textsI_cons (p : List En) (ps : List (List En)) : textsI (p :: ps) = textI p ++ textsI ps := rfl
theorem textsI_append (a b : List (List En)) : textsI (a ++ b) = textsI a ++ textsI b := by simp [textsI]
theorem textI_bd (p : List En) : 1 ≤ (textI p).length ∧ (textI p).length ≤ 10 + 40 * p.length := by rw [textI_len]; exact textD_len p
theorem textsI_bd (ps : List (List En)) : (textsI ps).length ≤ 10 * ps.length + 40 * ps.flatten.length := by
  induction ps with
  | nil => simp [textsI]
  | cons p ps ih =>
    have := (textI_bd p).2
    rw [textsI_cons, List.length_append, List.flatten_cons, List.length_append, List.length_cons]
    omega
theorem rootsN_len : ∀ (o : Nat) (ps : List (List En)), (rootsN o ps).length = ps.length
  | _, [] => rfl
  | o, p :: ps => by rw [rootsN, List.length_cons, List.length_cons, rootsN_len]
theorem rootsN_append : ∀ (o : Nat) (a b : List (List En)), rootsN o (a ++ b) = rootsN o a ++ rootsN (o + (textsI a).length) b
  | o, [], b => by simp [rootsN, textsI]
  | o, p :: a, b => by rw [List.cons_append, rootsN, rootsN, rootsN_append, textsI_cons, List.length_append, List.cons_append, Nat.add_assoc]
theorem rootsN_mem : ∀ (o : Nat) (ps : List (List En)) (e : En), e ∈ rootsN o ps → e.rn = 0 ∧ ∃ p ∈ ps, e.id = (gS p 0).id ∧ e.ln = (textI p).length ∧ 0 ≤ e.off ∧ e.off + e.ln ≤ o + (textsI ps).length
  | o, p :: ps, e, h => by
    rw [rootsN] at h
    rcases List.mem_cons.1 h with rfl | h
    · refine ⟨rfl, p, by simp, rfl, rfl, by simp, ?_⟩
      rw [textsI_cons, List.length_append]
      simp only
      omega
    · obtain ⟨h1, q, hq, h2, h3, h4, h5⟩ := rootsN_mem _ ps e h
      refine ⟨h1, q, by simp [hq], h2, h3, h4, ?_⟩
      rw [textsI_cons, List.length_append]
      omega
theorem roots_may {o : Nat} {ps : List (List En)} (hm : ∀ e ∈ ps.flatten, MayN e) (hp : ∀ p ∈ ps, p ≠ []) (hb : ∀ p ∈ ps, (textI p).length ≤ 4294967295) (ht : o + (textsI ps).length ≤ 1099511627776) : ∀ e ∈ rootsN o ps, MayN e := by
  intro e he
  obtain ⟨h1, p, hq, h2, h3, h4, h5⟩ := rootsN_mem o ps e he
  have hlen : 0 < p.length := List.length_pos_iff.2 (hp p hq)
  have h6 := hm (gS p 0) (List.mem_flatten.2 ⟨p, hq, gS_mem p 0 hlen⟩)
  have h7 := hb p hq
  unfold MayN at h6 ⊢
  rw [h1, h2, h3] at *
  omega
theorem leaves_roots (o : Nat) (ps : List (List En)) : leavesN (rootsN o ps) = rootsN o ps := by
  unfold leavesN
  rw [List.filter_eq_self]
  intro e he
  simpa using (rootsN_mem o ps e he).1
theorem fold_ge : ∀ (l : List En) (p : Int), (∀ e ∈ l, MayN e) → rowG p l = 0 → p ≤ l.foldl (fun _ e => laN e) p
  | [], p, _, _ => Int.le_refl _
  | e :: l, p, hm, h => by
    obtain ⟨c1, c2, c3⟩ := rowG_cons p e l h
    have h1 := la_ge e (hm e (by simp)) c1
    have h2 := fold_ge l (laN e) (fun x hx => hm x (by simp [hx])) c3
    rw [List.foldl_cons]
    omega
theorem roots_row : ∀ (ps : List (List En)) (o : Nat) (p : Int), (∀ e ∈ ps.flatten, MayN e) → (∀ q ∈ ps, q ≠ []) → o + (textsI ps).length ≤ 1099511627776 → rowG p ps.flatten = 0 → rowG p (rootsN o ps) = 0
  | [], _, _, _, _, _, _ => rfl
  | q :: ps, o, p, hm, hp, ht, h => by
    cases q with
    | nil => exact absurd rfl (hp [] (by simp))
    | cons e q =>
      rw [List.flatten_cons, List.cons_append] at h hm
      obtain ⟨c1, c2, c3⟩ := rowG_cons p e _ h
      have hme := hm e (by simp)
      have hck := ck_ok e c1
      have hwd := wd_pos e hme.2.2.2.1
      have hla := la_ge e hme c1
      have hln := (textI_bd (e :: q)).1
      rw [textsI_cons, List.length_append] at ht
      have hid : (gS (e :: q) 0).id = e.id := rfl
      have hr : ckN ⟨(gS (e :: q) 0).id, o, (textI (e :: q)).length, 0⟩ = 0 := by
        unfold ckN cnN wdN
        simp only [hid]
        rw [if_neg (by omega), if_neg (by simp; omega), if_neg (by omega)]
      have hl : laN ⟨(gS (e :: q) 0).id, o, (textI (e :: q)).length, 0⟩ = e.id := by
        unfold laN
        rw [if_pos hr]
        unfold wdN
        simp only [hid]
        simp
      rw [rootsN, rowG, if_neg (by rw [hr]; simp), if_neg (by simp only [hid]; omega), hl]
      have c4 := rowG_left (laN e) q ps.flatten c3
      have c5 := rowG_append (laN e) q ps.flatten c4
      rw [c3] at c5
      have c6 := fold_ge q (laN e) (fun x hx => hm x (by simp [hx])) c4
      exact roots_row ps _ e.id (fun x hx => hm x (by simp [hx])) (fun x hx => hp x (by simp [hx])) (by omega) (rowG_from _ _ _ c5.symm (by omega))
/-- Of a row the root is a row. -/
theorem roots_rowN {l : List En} (n : Nat) (hn : 1 ≤ n) (hm : ∀ e ∈ l, MayN e) (h : rowN l = 0) (hl : l.length ≤ 5000) : rowN (rootsN 0 (cutN n l)) = 0 := by
  obtain ⟨h1, h2⟩ := row_G h
  have hf := cut_flat n hn l
  have hc := cut_len n hn l
  have ht := textsI_bd (cutN n l)
  rw [hf] at ht
  unfold rowN
  rw [if_neg (by rw [rootsN_len]; omega)]
  exact roots_row (cutN n l) 0 (-1) (by rw [hf]; exact hm) (fun q hq => (cut_mem n hn l q hq).1) (by omega) (by rw [hf]; exact h1)
theorem roots_end : ∀ (ps : List (List En)) (o : Nat), (∀ e ∈ rootsN o ps, ckN e = 0) → ps ≠ [] → enN (rootsN o ps) = ((o + (textsI ps).length : Nat) : Int)
  | [], _, _, h => absurd rfl h
  | [p], o, h, _ => by
    have hc := h ⟨(gS p 0).id, o, (textI p).length, 0⟩ (by simp [rootsN])
    simp only [rootsN, enN, List.foldl_cons, List.foldl_nil]
    rw [if_pos hc, textsI_cons]
    simp [textsI]
    omega
  | p :: q :: ps, o, h, _ => by
    have hc := h ⟨(gS p 0).id, o, (textI p).length, 0⟩ (by simp [rootsN])
    have ih := roots_end (q :: ps) (o + (textI p).length) (fun e he => h e (by rw [rootsN]; exact List.mem_cons_of_mem _ he)) (by simp)
    have e : rootsN o (p :: q :: ps) = [⟨(gS p 0).id, o, (textI p).length, 0⟩] ++ rootsN (o + (textI p).length) (q :: ps) := rfl
    rw [e, enN_append, ih]
    simp only [enN, List.foldl_cons, List.foldl_nil]
    rw [if_pos hc, Int.max_def, Int.max_def]
    have hq := textsI_cons q ps
    have := congrArg List.length hq
    have h2 := congrArg List.length (textsI_cons p (q :: ps))
    rw [List.length_append] at this h2
    split <;> split <;> omega
end Go.Proofs.Ytbkodaijigcebaa
