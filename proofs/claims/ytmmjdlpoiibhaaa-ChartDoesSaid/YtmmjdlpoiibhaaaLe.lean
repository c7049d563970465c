/- The contract of the document's Put. -/
import Derived.Test.YtmmjdlpoiibhaaaLd
namespace Go.Proofs.Ytmmjdlpoiibhaaa
open Go.RowKit
set_option maxRecDepth 20000
set_option linter.unusedVariables false
set_option linter.unusedSimpArgs false
theorem low_take (id : Nat) (r : List It) : r.take (lowI id r).length = lowI id r := by
  conv => lhs; arg 2; rw [← low_high id r]
  exact List.take_left
theorem low_drop (id : Nat) (r : List It) : r.drop (lowI id r).length = highI id r := by
  conv => lhs; arg 2; rw [← low_high id r]
  exact List.drop_left
theorem low_le (id : Nat) (r : List It) : (lowI id r).length ≤ r.length := by
  have := congrArg List.length (low_high id r)
  rw [List.length_append] at this
  omega
theorem low_at (id : Nat) (r : List It) : ∀ k, k < (lowI id r).length → ∃ t, r[k]? = some t ∧ t.1 < id := by
  induction r with
  | nil => intro k h; simp [lowI] at h
  | cons x r ih =>
    intro k h
    unfold lowI at h
    rw [List.takeWhile_cons] at h
    by_cases hx : x.1 < id
    · rw [if_pos (by simpa using hx)] at h
      cases k with
      | zero => exact ⟨x, rfl, hx⟩
      | succ k => exact ih k (by simpa [lowI] using h)
    · rw [if_neg (by simpa using hx)] at h
      simp at h
theorem low_end (id : Nat) (r : List It) : ∀ t, r[(lowI id r).length]? = some t → ¬ t.1 < id := by
  induction r with
  | nil => intro t h; simp at h
  | cons x r ih =>
    intro t h
    unfold lowI at h
    rw [List.takeWhile_cons] at h
    by_cases hx : x.1 < id
    · rw [if_pos (by simpa using hx)] at h
      exact ih t (by simpa [lowI] using h)
    · rw [if_neg (by simpa using hx)] at h
      simp at h
      subst h
      exact hx
theorem OwnIt.form {w : World} {B : Nat} {E : TypeId} {v : Value} {l : List It} (h : OwnIt w B E v l) :
    (v = .slice none 0 0 ∧ l = []) ∨ ∃ g cap, v = .slice (some ⟨g, 0, none⟩) l.length cap ∧ B ≤ g ∧ g < w.heap.size ∧ l.length ≤ cap ∧ cap ≤ maxLen ∧ (∀ k t, l[k]? = some t → w.cell? ⟨g, k * 2, none⟩ = some (.int .u64 t.1) ∧ w.cell? ⟨g, k * 2 + 1, none⟩ = some (.string t.2)) := by
  have hlt := h.lt
  have h' := h
  obtain ⟨h1, h2⟩ := h
  rcases h2 with ⟨rfl, hn⟩ | ⟨g, cap, cur, rfl, hg, hh, hle, hm, _⟩
  · exact .inl ⟨rfl, List.eq_nil_of_length_eq_zero hn⟩
  · refine .inr ⟨g, cap, rfl, hg, (hlt g rfl).2, hle, hm, fun k t ht => ?_⟩
    have hk := (List.getElem?_eq_some_iff.1 ht).1
    obtain ⟨f0, f1⟩ := flatI_at l k t ht
    exact ⟨(World.ownsRow.cellAt h' (k * 2) (by omega)).trans f0, (World.ownsRow.cellAt h' (k * 2 + 1) (by omega)).trans f1⟩
theorem its_pre {w : World} {g cap : Nat} {l : List It} (k : Nat) (hk : k ≤ l.length) (hg : g < w.heap.size) (h1 : l.length ≤ cap) (h2 : cap ≤ maxLen) (hc : ∀ k t, l[k]? = some t → w.cell? ⟨g, k * 2, none⟩ = some (.int .u64 t.1) ∧ w.cell? ⟨g, k * 2 + 1, none⟩ = some (.string t.2)) : ItsAt w (.slice (some ⟨g, 0, none⟩) k cap) (l.take k) := by
  have e : (l.take k).length = k := by rw [List.length_take]; omega
  refine ⟨_, cap, by rw [e], by omega, h2, fun j t ht => ⟨g, 0, rfl, hg, ?_⟩⟩
  have hj : j < k := by have := (List.getElem?_eq_some_iff.1 ht).1; omega
  rw [List.getElem?_take, if_pos hj] at ht
  rw [Nat.zero_add]
  exact hc j t ht
theorem its_post {w : World} {g cap : Nat} {l : List It} (k : Nat) (hk : k ≤ l.length) (hg : g < w.heap.size) (h1 : l.length ≤ cap) (h2 : cap ≤ maxLen) (hc : ∀ k t, l[k]? = some t → w.cell? ⟨g, k * 2, none⟩ = some (.int .u64 t.1) ∧ w.cell? ⟨g, k * 2 + 1, none⟩ = some (.string t.2)) : ItsAt w (.slice (some ⟨g, k * 2, none⟩) (l.length - k) (cap - k)) (l.drop k) := by
  refine ⟨_, cap - k, by rw [List.length_drop], by rw [List.length_drop]; omega, by omega, fun j t ht => ⟨g, k * 2, rfl, hg, ?_⟩⟩
  rw [List.getElem?_drop] at ht
  have := hc (k + j) t ht
  rw [show k * 2 + j * 2 = (k + j) * 2 by omega]
  exact this
theorem its_zero {w : World} {a : Option Addr} {l : List It} (k : Nat) (hk : l.length ≤ k) : ItsAt w (.slice a (l.length - k) 0) (l.drop k) := by
  have : l.drop k = [] := List.drop_of_length_le hk
  rw [this]
  exact ⟨a, 0, by rw [show l.length - k = 0 by omega]; rfl, by simp, by simp, fun j t ht => by simp at ht⟩
theorem OwnIt.slice {w : World} {B : Nat} {E : TypeId} {v : Value} {l : List It} (h : OwnIt w B E v l) : ∃ a cap, v = .slice a l.length cap := by
  rcases h.form with ⟨rfl, rfl⟩ | ⟨g, cap, rfl, _⟩
  · exact ⟨none, 0, rfl⟩
  · exact ⟨_, cap, rfl⟩
def RPutEnd (l : List It) (id : Nat) (s : ByteArray) (w : World) (e : Ending) (w' : World) : Prop :=
  ∃ v', e = .returned (.tuple #[v', .int .i64 (putE l id s : Nat)]) ∧ ItsAt w' v' (putL l id s) ∧ Below w.heap.size w w'
theorem rput_err (v : Value) (l : List It) (id n : Nat) (s : ByteArray) (w : World) (hv : ItsAt w v l) (hn : putE l id s = n) (h0 : n ≠ 0) : ∀ e, e = Ending.returned (.tuple #[v, .int .i64 (n : Nat)]) → RPutEnd l id s w e w := by
  rintro e rfl
  refine ⟨v, by rw [hn], ?_, Below.refl _ _⟩
  unfold putL
  rw [hn, if_neg h0]
  exact hv
set_option maxHeartbeats 1000000 in
theorem rput_no (v : Value) (l : List It) (id : Nat) (s : ByteArray) (w : World) (hv : ItsAt w v l) (hid : id < 18446744073709551616) (h : putE l id s ≠ 0) : Calls Try.prog 10 #[v, .int .u64 id, .string s] w (RPutEnd l id s w) := by
  have HV := Lib.hid (rput_err v l id _ s w hv rfl h)
  have HG := Lib.hid (rget_any v l id w hv)
  obtain ⟨n, hn⟩ : ∃ n, putE l id s = n := ⟨_, rfl⟩
  rw [hn] at HV h
  unfold putE at hn
  obtain ⟨al, cap, rfl, hcap, hmx, hc⟩ := hv
  clear hc
  by_cases h1 : 6004799503160661 ≤ id
  · rw [if_pos h1] at hn
    subst hn
    have h1' : (6004799503160661 : Int) ≤ (id : Int) := by omega
    go_enter Try.func10, Try.ntmps10
    go_wp2_with fail
    exact bodyPost_ret (results_tmp2 rfl _ _ _) rfl (HV.out _ rfl)
  · rw [if_neg h1] at hn
    have h1' : ¬ (6004799503160661 : Int) ≤ (id : Int) := by omega
    by_cases h2 : s.size = 0
    · rw [if_pos h2] at hn
      subst hn
      have h2' : ((s.size : Int) == 0) = true := by rw [beq_iff_eq]; omega
      go_enter Try.func10, Try.ntmps10
      go_wp2_with fail
      exact bodyPost_ret (results_tmp2 rfl _ _ _) rfl (HV.out _ rfl)
    · rw [if_neg h2] at hn
      have h2' : ((s.size : Int) == 0) = false := by rw [beq_eq_false_iff_ne]; omega
      by_cases h3 : 65536 < s.size
      · rw [if_pos h3] at hn
        subst hn
        have h3' : (65536 : Int) < (s.size : Int) := by omega
        go_enter Try.func10, Try.ntmps10
        go_wp2_with fail
        exact bodyPost_ret (results_tmp2 rfl _ _ _) rfl (HV.out _ rfl)
      · rw [if_neg h3] at hn
        have h3' : ¬ (65536 : Int) < (s.size : Int) := by omega
        cases hg : getI id l with
        | some t => rw [hg] at hn; simp at hn; exact absurd hn.symm h
        | none =>
          rw [hg] at hn HG
          by_cases h4 : 2048 ≤ l.length
          · simp [h4] at hn
            subst hn
            have h4' : decide ((2048 : Int) ≤ (l.length : Int)) = true := decide_eq_true (by omega)
            rw [show (none : Option ByteArray).isSome = false from rfl] at HG
            generalize getT none = gt at *
            go_enter Try.func10, Try.ntmps10
            go_wp2_with fail
            refine HG.out.mono ?_
            rintro y w1 ⟨rfl, rfl⟩
            go_wp2_with fail
            exact bodyPost_ret (results_tmp2 rfl _ _ _) rfl (HV.out _ rfl)
          · simp [h4] at hn; exact absurd hn.symm h
set_option maxRecDepth 20000 in
set_option maxHeartbeats 2000000 in
theorem rput_yes (v : Value) (l : List It) (id : Nat) (s : ByteArray) (w : World) (hv : ItsAt w v l) (hl : l.length ≤ 100000) (h : putE l id s = 0) : Calls Try.prog 10 #[v, .int .u64 id, .string s] w (RPutEnd l id s w) := by
  have HG := Lib.hid (rget_any v l id w hv)
  have HD := Lib.hid (rdel_any v l id w hv hl)
  have hlen := delI_len id l
  have hE := h
  have hL := Lib.hid (show putL l id s = putI id s l by unfold putL; rw [if_pos h])
  have E := Lib.hid h
  unfold putE at h
  by_cases h1 : 6004799503160661 ≤ id
  · rw [if_pos h1] at h; omega
  rw [if_neg h1] at h
  by_cases h2 : s.size = 0
  · rw [if_pos h2] at h; omega
  rw [if_neg h2] at h
  by_cases h3 : 65536 < s.size
  · rw [if_pos h3] at h; omega
  rw [if_neg h3] at h
  have h1' : ¬ (6004799503160661 : Int) ≤ (id : Int) := by omega
  have h2' : ((s.size : Int) == 0) = false := by rw [beq_eq_false_iff_ne]; omega
  have h3' : ¬ (65536 : Int) < (s.size : Int) := by omega
  have h4 : ((getI id l).isSome = true) ∨ ((getI id l).isSome = false ∧ decide ((2048 : Int) ≤ (l.length : Int)) = false) := by
    cases hg : getI id l with
    | some t => exact .inl rfl
    | none =>
      refine .inr ⟨rfl, decide_eq_false ?_⟩
      rw [hg] at h
      intro hq
      have : 2048 ≤ l.length := by omega
      simp [this] at h
  obtain ⟨al, cap, rfl, hcap, hmx, hc⟩ := hv
  clear hc h hE
  generalize getT (getI id l) = gt at *
  generalize (getI id l).isSome = gb at *
  generalize hr : delI id l = r at *
  go_enter Try.func10, Try.ntmps10
  go_wp2_with fail
  refine HG.out.mono ?_
  rintro y w1 ⟨rfl, rfl⟩
  rcases h4 with rfl | ⟨rfl, h4⟩
  all_goals
    go_wp2_with fail
    refine HD.out.mono ?_
    rintro y w2 ⟨vr, rfl, hown, hb⟩
    rcases hown.form with ⟨rfl, rfl⟩ | ⟨g, cap2, rfl, hB, hg, hq1, hq2, hcells⟩
    · obtain ⟨v1, w3, hr1, hown1, hgr1⟩ := itappend_run w2 w2.heap.size 27 53 27 _ Try.underlying27 infoIt rfl (.slice none 0 0) (.slice none 0 0) [] [] (ownIt_nil _ _ _) (its_nil _) (by simp) (Nat.le_refl _)
      have hb1 : Below w2.heap.size w2 w3 := Below.grown (Below.refl _ _) hgr1 (Nat.le_refl _) (fun k hk => by cases hk)
      have hb2 : Below w2.heap.size w2 (w3.alloc (.cells #[.int .u64 id, .string s] 53)) := hb1.alloc hb1.size _
      obtain ⟨v2, w4, hr2, hown2, hgr2⟩ := itappend_run (w3.alloc (.cells #[.int .u64 id, .string s] 53)) w2.heap.size 27 53 27 _ Try.underlying27 infoIt rfl v1 _ _ [(id, s)] (hown1.below (Below.alloc (Below.refl _ _) (Nat.le_refl _) _)) (it_lit w3 id s _) (by simp) hb2.size
      have hb3 : Below w2.heap.size w2 w4 := Below.grown hb2 hgr2 hb2.size (fun k hk => (hown1.lt k hk).1)
      obtain ⟨v3, w5, hr3, hown3, hgr3⟩ := itappend_run w4 w2.heap.size 27 53 27 _ Try.underlying27 infoIt rfl v2 (.slice none 0 0) _ [] hown2 (its_nil _) (by simp) hb3.size
      have hb4 : Below w2.heap.size w2 w5 := Below.grown hb3 hgr3 hb3.size (fun k hk => (hown2.lt k hk).1)
      have HB := Lib.hid (hb.trans (hb4.mono hb.size))
      have hput : putL l id s = [] ++ [] ++ [(id, s)] ++ [] := by
        rw [hL.out]
        unfold putI
        rw [hr]
        rfl
      have HO := Lib.hid (show ItsAt w5 v3 (putL l id s) by rw [hput]; exact hown3.itsAt)
      obtain ⟨a1, cap1, rfl⟩ := hown1.slice
      obtain ⟨a2, cap2', rfl⟩ := hown2.slice
      simp only [List.append_nil, List.nil_append, List.length_nil, List.length_singleton] at hr2 hr3
      clear hown1 hown2 hown3 hgr1 hgr2 hgr3 hb1 hb2 hb3 hb4 hb hput hown
      go_wp2_with fail
      go_loop [11] (fun i => i = .int .i64 0) (fun i => 0)
      case atStart => rfl
      case round =>
        subst hrel
        go_wp2_with (first | (at_builtin; refine Lib.wpList_append_run _ rfl _ _ _ _ rfl _ _ rfl rfl _ _ hr1 ?_; clear hr1) | (at_builtin; refine Lib.wpList_append_run _ rfl _ _ _ _ rfl _ _ rfl rfl _ _ hr2 ?_; clear hr2) | (at_builtin; refine Lib.wpList_append_run _ rfl _ _ _ _ rfl _ _ rfl rfl _ _ hr3 ?_; clear hr3) | fail)
        refine bodyPost_ret (results_tmp2 rfl _ _ _) rfl ⟨_, ?_, HO.out, HB.out⟩
        rw [E.out]; rfl
    · have HC := Lib.hid hcells
      have HLo := Lib.hid (low_at id r)
      have hlo := low_le id r
      have hLe := Lib.hid (low_end id r)
      generalize hn : (lowI id r).length = n at *
      go_wp2_with fail
      go_loop [11] (fun i => ∃ k : Nat, k ≤ n ∧ i = .int .i64 k) (fun i => n - (intOf i).toNat)
      case atStart => exact ⟨0, Nat.zero_le _, rfl⟩
      case round =>
        obtain ⟨k, hk, rfl⟩ := hrel
        by_cases hlt : k < n
        · obtain ⟨⟨x, t⟩, htk, hx⟩ := HLo.out k hlt
          obtain ⟨c0, c1⟩ := HC.out k _ htk
          have hkr : (k : Int) < (r.length : Int) := by omega
          have hx' : (x : Int) < (id : Int) := by simp only at hx; omega
          go_wp2_with fail
          go_round
          case rel => exact ⟨k + 1, by omega, by go_num⟩
          case measure => simp [intOf]; omega
        · have hkn : k = n := by omega
          subst hkn
          have hend : ((k : Int) < (r.length : Int) ∧ ∃ x t, r[k]? = some (x, t) ∧ ¬ (x : Int) < (id : Int)) ∨ ¬ (k : Int) < (r.length : Int) := by
            by_cases hq : k < r.length
            · obtain ⟨⟨x, t⟩, ht⟩ : ∃ t, r[k]? = some t := ⟨_, List.getElem?_eq_getElem hq⟩
              have := hLe.out _ ht
              exact .inl ⟨by omega, x, t, ht, by simp only at this; omega⟩
            · exact .inr (by omega)
          have hpre := its_pre k hlo hg hq1 hq2 hcells
          have hpost := its_post k hlo hg hq1 hq2 hcells
          have hlp : (r.take k).length = k := by rw [List.length_take]; omega
          obtain ⟨v1, w3, hr1, hown1, hgr1⟩ := itappend_run w2 w2.heap.size 27 53 27 _ Try.underlying27 infoIt rfl (.slice none 0 0) _ [] (r.take k) (ownIt_nil _ _ _) hpre (by simp; omega) (Nat.le_refl _)
          rw [List.nil_append] at hown1
          have hb1 : Below w2.heap.size w2 w3 := Below.grown (Below.refl _ _) hgr1 (Nat.le_refl _) (fun k hk => by cases hk)
          have hb2 : Below w2.heap.size w2 (w3.alloc (.cells #[.int .u64 id, .string s] 53)) := hb1.alloc hb1.size _
          obtain ⟨v2, w4, hr2, hown2, hgr2⟩ := itappend_run (w3.alloc (.cells #[.int .u64 id, .string s] 53)) w2.heap.size 27 53 27 _ Try.underlying27 infoIt rfl v1 _ _ [(id, s)] (hown1.below (Below.alloc (Below.refl _ _) (Nat.le_refl _) _)) (it_lit w3 id s _) (by simp only [List.length_singleton]; omega) hb2.size
          have hb3 : Below w2.heap.size w2 w4 := Below.grown hb2 hgr2 hb2.size (fun k hk => (hown1.lt k hk).1)
          have hlq : (r.take k ++ [(id, s)]).length = k + 1 := by rw [List.length_append, hlp]; rfl
          have hput : putL l id s = r.take k ++ [(id, s)] ++ r.drop k := by
            rw [hL.out]
            unfold putI
            rw [hr, ← low_take id r, ← low_drop id r, hn, List.append_assoc]
            rfl
          rcases hend with ⟨e1, x, t, e2, e3⟩ | e1
          · obtain ⟨c0, c1⟩ := hcells k _ e2
            obtain ⟨v3, w5, hr3, hown3, hgr3⟩ := itappend_run w4 w2.heap.size 27 53 27 _ Try.underlying27 infoIt rfl v2 _ _ (r.drop k) hown2 (hpost.below hb3) (by rw [List.length_drop]; omega) hb3.size
            have hb4 : Below w2.heap.size w2 w5 := Below.grown hb3 hgr3 hb3.size (fun k hk => (hown2.lt k hk).1)
            have HB := Lib.hid (hb.trans (hb4.mono hb.size))
            have HO := Lib.hid (show ItsAt w5 v3 (putL l id s) by rw [hput]; exact hown3.itsAt)
            obtain ⟨a1, cap1, rfl⟩ := hown1.slice
            obtain ⟨a2, cap2', rfl⟩ := hown2.slice
            rw [hlp] at hr2
            rw [hlq] at hr3
            have HC := Lib.hid hcells
            clear hcells hpre hpost hown1 hown2 hown3 hgr1 hgr2 hgr3 hb1 hb2 hb3 hb4 hb hput hown
            go_wp2_with (first | (at_builtin; refine Lib.wpList_append_run _ rfl _ _ _ _ rfl _ _ rfl rfl _ _ hr1 ?_; clear hr1) | (at_builtin; refine Lib.wpList_append_run _ rfl _ _ _ _ rfl _ _ rfl rfl _ _ hr2 ?_; clear hr2) | (at_builtin; refine Lib.wpList_append_run _ rfl _ _ _ _ rfl _ _ rfl rfl _ _ hr3 ?_; clear hr3) | fail)
            refine bodyPost_ret (results_tmp2 rfl _ _ _) rfl ⟨_, ?_, HO.out, HB.out⟩
            rw [E.out]; rfl
          · by_cases hck : cap2 = k
            · have hpz : ItsAt w4 (.slice (some ⟨g, 0, none⟩) (r.length - k) 0) (r.drop k) := its_zero k (by omega)
              obtain ⟨v3, w5, hr3, hown3, hgr3⟩ := itappend_run w4 w2.heap.size 27 53 27 _ Try.underlying27 infoIt rfl v2 _ _ (r.drop k) hown2 hpz (by rw [List.length_drop]; omega) hb3.size
              have hb4 : Below w2.heap.size w2 w5 := Below.grown hb3 hgr3 hb3.size (fun k hk => (hown2.lt k hk).1)
              have HB := Lib.hid (hb.trans (hb4.mono hb.size))
              have HO := Lib.hid (show ItsAt w5 v3 (putL l id s) by rw [hput]; exact hown3.itsAt)
              obtain ⟨a1, cap1, rfl⟩ := hown1.slice
              obtain ⟨a2, cap2', rfl⟩ := hown2.slice
              rw [hlp] at hr2
              rw [hlq] at hr3
              have HC := Lib.hid hcells
              clear hpz hcells hpre hpost hown1 hown2 hown3 hgr1 hgr2 hgr3 hb1 hb2 hb3 hb4 hb hput hown
              go_wp2_with (first | (at_builtin; refine Lib.wpList_append_run _ rfl _ _ _ _ rfl _ _ rfl rfl _ _ hr1 ?_; clear hr1) | (at_builtin; refine Lib.wpList_append_run _ rfl _ _ _ _ rfl _ _ rfl rfl _ _ hr2 ?_; clear hr2) | (at_builtin; refine Lib.wpList_append_run _ rfl _ _ _ _ rfl _ _ rfl rfl _ _ hr3 ?_; clear hr3) | fail)
              refine bodyPost_ret (results_tmp2 rfl _ _ _) rfl ⟨_, ?_, HO.out, HB.out⟩
              rw [E.out]; rfl
            · have hdu := hck
              obtain ⟨v3, w5, hr3, hown3, hgr3⟩ := itappend_run w4 w2.heap.size 27 53 27 _ Try.underlying27 infoIt rfl v2 _ _ (r.drop k) hown2 (hpost.below hb3) (by rw [List.length_drop]; omega) hb3.size
              have hb4 : Below w2.heap.size w2 w5 := Below.grown hb3 hgr3 hb3.size (fun k hk => (hown2.lt k hk).1)
              have HB := Lib.hid (hb.trans (hb4.mono hb.size))
              have HO := Lib.hid (show ItsAt w5 v3 (putL l id s) by rw [hput]; exact hown3.itsAt)
              obtain ⟨a1, cap1, rfl⟩ := hown1.slice
              obtain ⟨a2, cap2', rfl⟩ := hown2.slice
              rw [hlp] at hr2
              rw [hlq] at hr3
              have HC := Lib.hid hcells
              clear hcells hpre hpost hown1 hown2 hown3 hgr1 hgr2 hgr3 hb1 hb2 hb3 hb4 hb hput hown
              go_wp2_with (first | (at_builtin; refine Lib.wpList_append_run _ rfl _ _ _ _ rfl _ _ rfl rfl _ _ hr1 ?_; clear hr1) | (at_builtin; refine Lib.wpList_append_run _ rfl _ _ _ _ rfl _ _ rfl rfl _ _ hr2 ?_; clear hr2) | (at_builtin; refine Lib.wpList_append_run _ rfl _ _ _ _ rfl _ _ rfl rfl _ _ hr3 ?_; clear hr3) | fail)
              refine bodyPost_ret (results_tmp2 rfl _ _ _) rfl ⟨_, ?_, HO.out, HB.out⟩
              rw [E.out]; rfl
theorem rput_any (v : Value) (l : List It) (id : Nat) (s : ByteArray) (w : World) (hv : ItsAt w v l) (hl : l.length ≤ 100000) (hid : id < 18446744073709551616) : Calls Try.prog 10 #[v, .int .u64 id, .string s] w (RPutEnd l id s w) := by
  by_cases h : putE l id s = 0
  · exact rput_yes v l id s w hv hl h
  · exact rput_no v l id s w hv hid h
end Go.Proofs.Ytmmjdlpoiibhaaa
