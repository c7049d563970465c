/- Contract of the program's joined: one interval more onto a row of the call's own. -/
import Derived.Test.YthlekifagidijaaDoorRl
import Derived.Test.YthlekifagidijaaDoorJn
import Derived.Test.YthlekifagidijaaDoorRp
import Derived.BigRegion
import Derived.Deep.QuietTactic
import Derived.BigQuiet
import Derived.Lib.AppendZeros
namespace Go.Proofs.YthlekifagidijaaDoor
open Go.RowKit
set_option linter.unusedVariables false
set_option linter.unusedSimpArgs false
/-- What a row's place becomes: as it was, or new. -/
def Moved (w : World) (v v' : Value) : Prop := v'.ownBlock = v.ownBlock ∨ ∃ g, v'.ownBlock = some g ∧ w.heap.size ≤ g
def JoinEnd (B : Nat) (v : Value) (L : List (Int × Int)) (w : World) (e : Ending) (w' : World) : Prop := ∃ v', e = .returned v' ∧ OwnS w' B 54 v' L ∧ w.grownBy w' v.ownBlock ∧ Moved w v v'
theorem Tryd.infoS54 : (Tryd.prog.info? 54).map (fun i => (i.zero, i.size, i.bytes)) = some (some (.agg #[.int .u64 0, .int .u64 0]), 2, 16) := by kernel_rfl
/-- An append of one interval, run. -/
theorem append_one (W : World) (B : Nat) (v : Value) (L : List (Int × Int)) (s : Int × Int) (hown : OwnS W B 54 v L) (hl : L.length ≤ 100000) (ad : Addr) (c : Nat) (h0 : W.cell? ad = some (.int .u64 s.1)) (h1 : W.cell? (ad.add 1) = some (.int .u64 s.2)) (hb : B ≤ W.heap.size) (ty : TypeId) :
    ∃ v' w', (Builtin.append_ #[35, 35] ty #[v, .slice (some ad) 1 c]).run Tryd.prog W = .ok v' w' ∧ OwnS w' B 54 v' (L ++ [s]) ∧ W.grownBy w' v.ownBlock ∧ Moved W v v' := by
  obtain ⟨i0, hi, hz0, hz1, hz2⟩ := info_parts Tryd.infoS54
  have hnews : ∀ j u, ([.int .u64 s.1, .int .u64 s.2] : List Value)[j]? = some u → W.cell? (ad.add j) = some u := by
    intro j u hu
    match j, hu with
    | 0, hu => simp only [List.getElem?_cons_zero, Option.some.injEq] at hu; rw [← hu, ← h0]; congr 1
    | 1, hu => simp only [List.getElem?_cons_succ, List.getElem?_cons_zero, Option.some.injEq] at hu; rw [← hu, ← h1]
    | j + 2, hu => simp at hu
  have hone : ∀ u ∈ ([.int .u64 s.1, .int .u64 s.2] : List Value), u.oneCell' = true := by
    intro u hu
    simp only [List.mem_cons, List.not_mem_nil, or_false] at hu
    rcases hu with rfl | rfl <;> rfl
  obtain ⟨v', w', hr, h2, h3, h4⟩ := run_append_own (P := Tryd.prog) W B 35 ty 54 i0 _ 2 16 Tryd.underlying35 hi hz0 hz1 hz2 rfl (by omega) v L.length (flat2 L) hown ad 1 c _ rfl hnews hone (by unfold maxLen; omega) (by omega) hb
  refine ⟨v', w', hr, owns_conv h2 (by simp) (by rw [flat2_append]; rfl), h3, ?_⟩
  have hblock := hown.form
  rcases hown.2 with ⟨rfl, hn⟩ | ⟨g, cap, cur, rfl, hbg, hg, hnc, hcm, hcs, htake⟩
  · obtain ⟨_, _, hr2, h22, _, _⟩ := run_append_own (P := Tryd.prog) W W.heap.size 35 ty 54 i0 _ 2 16 Tryd.underlying35 hi hz0 hz1 hz2 rfl (by omega) (.slice none 0 0) L.length (flat2 L) ⟨hown.1, .inl ⟨rfl, hn⟩⟩ ad 1 c _ rfl hnews hone (by unfold maxLen; omega) (by omega) (Nat.le_refl _)
    rw [hr] at hr2
    injection hr2 with e1 e2
    subst e1 e2
    rcases h22.2 with ⟨rfl, _⟩ | ⟨g, cap, cur, rfl, hg, _⟩
    · exact .inl rfl
    · exact .inr ⟨g, rfl, hg⟩
  · by_cases hroom : L.length + 1 ≤ cap
    · have hr2 := run_append_room (P := Tryd.prog) W 35 ty 54 i0 Tryd.underlying35 hi g L.length cap cur hg ad 1 c [.int .u64 s.1, .int .u64 s.2] (by rw [hz1]; rfl) hnews hone hroom (by rw [hz1]; simp only [List.length_cons, List.length_nil]; omega)
      rw [hr] at hr2
      injection hr2 with e1 e2
      rw [e1]
      exact .inl rfl
    · have hr2 := run_append_grow (P := Tryd.prog) W 35 ty 54 i0 _ Tryd.underlying35 hi hz0 ⟨g, 0, none⟩ L.length cap (flat2 L) (by rw [hz1]; exact hown.1) (World.ownsRow.cells hown rfl) ad 1 c [.int .u64 s.1, .int .u64 s.2] (by rw [hz1]; rfl) hnews (by omega) (by omega) (growslice_fits (by omega) (by rw [hz2]; omega))
      rw [hr] at hr2
      injection hr2 with e1 e2
      rw [e1]
      exact .inr ⟨_, rfl, Nat.le_refl _⟩
theorem moved_refl (w : World) (v : Value) : Moved w v v := .inl rfl
theorem join_run (w : World) (B : Nat) (v : Value) (L : List (Int × Int)) (p q : Int) (hown : OwnS w B 54 v L) (hl : L.length ≤ 100000) (hB : B ≤ w.heap.size) (nq : Nat) :
    ∃ v' w2, (Builtin.append_ #[35, 35] 35 #[v, .slice (some ⟨w.heap.size + 1, 0, none⟩) 1 1]).run Tryd.prog (((w.alloc (.cells #[.int .u64 p, .int .u64 q] 54)).drewN nq).alloc (.cells #[.int .u64 p, .int .u64 q] 54)) = .ok v' w2 ∧ OwnS w2 B 54 v' (L ++ [(p, q)]) ∧ w.grownBy w2 v.ownBlock ∧ Moved w v v' := by
  have h0 : OwnS ((w.alloc (.cells #[.int .u64 p, .int .u64 q] 54)).drewN nq) B 54 v L := World.ownsRow.alloc hown _
  obtain ⟨v', w2, hr, h1, h2, h3⟩ := append_one (((w.alloc (.cells #[.int .u64 p, .int .u64 q] 54)).drewN nq).alloc (.cells #[.int .u64 p, .int .u64 q] 54)) B v L (p, q) (World.ownsRow.alloc h0 _) hl ⟨w.heap.size + 1, 0, none⟩ 1 (by simp [go_sem]) (by simp [go_sem, Addr.add]) (by simp; omega) 35
  refine ⟨v', w2, hr, h1, ?_, ?_⟩
  · have g1 : w.grownBy ((w.alloc (.cells #[.int .u64 p, .int .u64 q] 54)).drewN nq) v.ownBlock := by
      obtain ⟨a, b, c, d, e⟩ := World.grownBy_alloc w (.cells #[.int .u64 p, .int .u64 q] 54) v.ownBlock
      exact ⟨a, b, c, d, e⟩
    exact (g1.trans (World.grownBy_alloc _ _ _)).trans h2
  · rcases h3 with h3 | ⟨g, h3, h4⟩
    · exact .inl h3
    · refine .inr ⟨g, h3, ?_⟩
      rw [World.size_alloc] at h4
      have : ((w.alloc (.cells #[.int .u64 p, .int .u64 q] 54)).drewN nq).heap.size = w.heap.size + 1 := World.size_alloc _ _
      omega
set_option maxHeartbeats 2000000 in
set_option maxRecDepth 20000 in
theorem joined_app (B : Nat) (v : Value) (L : List (Int × Int)) (p q : Int) (w : World) (hown : OwnS w B 54 v L) (hw : WideS L) (p0 : 0 ≤ p) (p1 : p ≤ 18446744073709551615) (q0 : 0 ≤ q) (q1 : q ≤ 18446744073709551615) (hl : L.length ≤ 100000) (hB : B ≤ w.heap.size) (hno : L = [] ∨ ∃ M t, L = M ++ [t] ∧ t.2 + 1 < p) : Calls Tryd.prog 34 #[v, .agg #[.int .u64 p, .int .u64 q]] w (JoinEnd B v (L ++ [(p, q)]) w) := by
  have HR := Lib.hid (join_run w B v L p q hown hl hB)
  rcases hno with rfl | ⟨M, t, rfl, ht⟩
  · rcases hown.form with ⟨rfl, _⟩ | ⟨g, cap, rfl, hg, hgw, hle, hm, hc, hf⟩
    · clear hown
      go_enter Tryd.func34, Tryd.ntmps34
      go_wp2_with fail
      go_quiet (fail)
      obtain ⟨v', w2, hr, he⟩ := HR.out nq
      go_wp2_with (first | (at_builtin; refine Lib.wpList_append_run _ rfl _ _ _ _ rfl _ _ rfl rfl _ _ hr ?_) | fail)
      go_ret
      exact ⟨_, rfl, he⟩
    · clear hown hc
      go_enter Tryd.func34, Tryd.ntmps34
      go_wp2_with fail
      go_quiet (fail)
      obtain ⟨v', w2, hr, he⟩ := HR.out nq
      go_wp2_with (first | (at_builtin; refine Lib.wpList_append_run _ rfl _ _ _ _ rfl _ _ rfl rfl _ _ hr ?_) | fail)
      go_ret
      exact ⟨_, rfl, he⟩
  · have hlen : (M ++ [t]).length = M.length + 1 := by simp
    rcases hown.form with ⟨_, hno⟩ | ⟨g, cap, rfl, hg, hgw, hle, hm, hc, hf⟩
    · simp at hno
    · obtain ⟨_, l1⟩ := flat2_at (M ++ [t]) M.length t (by simp)
      have hwt := hw t (List.mem_append.2 (.inr List.mem_cons_self))
      have c1 := (hc (M.length * 2 + 1) (by omega)).trans l1
      replace c1 := scell_later ((Below.refl w.heap.size w).alloc (Nat.le_refl _) (.cells #[.int .u64 p, .int .u64 q] 54)) c1
      rw [hlen] at HR hle hl ⊢
      clear hown hc hf l1 hw
      obtain ⟨a, b⟩ := t
      dsimp only at c1 ht hwt
      clear hlen
      generalize M.length = n at *
      have d1 : decide (p ≤ b) = false := decide_eq_false (by omega)
      have d2 : (IntKind.u64.wrap (p - 1) == b) = false := by rw [IntWalk.u64_in _ (by omega)]; simpa using (by omega : ¬ p - 1 = b)
      have d3 : decide ((0 : Int) < (n + 1 : Nat)) = true := decide_eq_true (by omega)
      go_enter Tryd.func34, Tryd.ntmps34
      go_wp2_with fail
      go_quiet (fail)
      obtain ⟨v', w2, hr, he⟩ := HR.out nq
      go_wp2_with (first | (at_builtin; refine Lib.wpList_append_run _ rfl _ _ _ _ rfl _ _ rfl rfl _ _ hr ?_) | fail)
      go_ret
      exact ⟨_, rfl, he⟩
theorem flat2_last (M : List (Int × Int)) (a b c : Int) : (flat2 (M ++ [(a, b)])).set (M.length * 2 + 1) (.int .u64 c) = flat2 (M ++ [(a, c)]) := by
  induction M with
  | nil => rfl
  | cons t M ih =>
    rw [List.cons_append, List.cons_append, List.length_cons, show (M.length + 1) * 2 + 1 = M.length * 2 + 1 + 1 + 1 from by omega, flat2, flat2, List.set_cons_succ, List.set_cons_succ, ih]
theorem grown_drew {w W : World} {r : Option Nat} (h : w.grownBy W r) : w.grownBy W.drew r := ⟨h.os, h.tape, h.output, h.size, h.block⟩
theorem to_end (B : Nat) (w W : World) (g cap : Nat) (M : List (Int × Int)) (a b q : Int) (hown : OwnS w B 54 (.slice (some ⟨g, 0, none⟩) (M.length + 1) cap) (M ++ [(a, b)])) (hg : w.grownBy W none) (hl : (M ++ [(a, b)]).length = M.length + 1) (c : Int) :
    OwnS (W.setCell ⟨g, M.length * 2 + 1, none⟩ (.int .u64 c)) B 54 (.slice (some ⟨g, 0, none⟩) (M.length + 1) cap) (M ++ [(a, c)]) ∧ w.grownBy (W.setCell ⟨g, M.length * 2 + 1, none⟩ (.int .u64 c)) (some g) := by
  have hlt := (hown.lt g rfl).2
  have h1 : OwnS W B 54 (.slice (some ⟨g, 0, none⟩) (M.length + 1) cap) (M ++ [(a, b)]) := World.ownsRow.kept hown hg (.inr (by simp [Value.ownBlock]))
  have h2 := h1
  unfold OwnS at h2
  rw [hl] at h2
  have h3 := World.ownsRow.stored h2 (M.length * 2 + 1) (.int .u64 c)
  rw [flat2_last] at h3
  refine ⟨owns_conv h3.1 (by simp) rfl, ?_⟩
  obtain ⟨e1, e2, e3, e4, e5⟩ := hg
  obtain ⟨f1, f2, f3, f4, f5⟩ := h3.2
  exact ⟨f1.trans e1, f2.trans e2, f3.trans e3, Nat.le_trans e4 f4, fun k hk hne => (f5 k (Nat.lt_of_lt_of_le hk e4) hne).trans (e5 k hk (by simp))⟩
set_option maxHeartbeats 4000000 in
set_option maxRecDepth 20000 in
theorem joined_to (B : Nat) (v : Value) (M : List (Int × Int)) (a b p q : Int) (w : World) (hown : OwnS w B 54 v (M ++ [(a, b)])) (hw : WideS (M ++ [(a, b)])) (p0 : 0 ≤ p) (p1 : p ≤ 18446744073709551615) (q0 : 0 ≤ q) (q1 : q ≤ 18446744073709551615) (hl : (M ++ [(a, b)]).length ≤ 100000) (hB : B ≤ w.heap.size) (hyes : p ≤ b + 1) : Calls Tryd.prog 34 #[v, .agg #[.int .u64 p, .int .u64 q]] w (JoinEnd B v (M ++ [(a, max b q)]) w) := by
  have hlen : (M ++ [(a, b)]).length = M.length + 1 := by simp
  rcases hown.form with ⟨_, hno⟩ | ⟨g, cap, rfl, hg, hgw, hle, hm, hc, hf⟩
  · simp at hno
  · obtain ⟨_, l1⟩ := flat2_at (M ++ [(a, b)]) M.length (a, b) (by simp)
    have hwt := hw (a, b) (List.mem_append.2 (.inr List.mem_cons_self))
    have c1 := (hc (M.length * 2 + 1) (by omega)).trans l1
    replace c1 := scell_later ((Below.refl w.heap.size w).alloc (Nat.le_refl _) (.cells #[.int .u64 p, .int .u64 q] 54)) c1
    have fz : (w.alloc (.cells #[.int .u64 p, .int .u64 q] 54)).frozen? ⟨g, M.length * 2 + 1, none⟩ = false := by
      have := World.ownsRow.frozenAt (World.ownsRow.alloc hown (.cells #[.int .u64 p, .int .u64 q] 54)) (M.length * 2 + 1)
      exact this
    rw [hlen] at hle hl hown ⊢
    have HE := Lib.hid (fun (W : World) (hW : w.grownBy W none) (c : Int) => to_end B w W g cap M a b q hown hW hlen c)
    clear hown hc hf l1 hw hlen
    dsimp only at c1 hwt
    generalize hn : M.length = n at *
    clear hn
    have d3 : decide ((0 : Int) < (n + 1 : Nat)) = true := decide_eq_true (by omega)
    have hgr : w.grownBy (w.alloc (.cells #[.int .u64 p, .int .u64 q] 54)) none := World.grownBy_alloc _ _ _
    have hbox : (w.alloc (.cells #[.int .u64 p, .int .u64 q] 54)).cell? ⟨w.heap.size, 1, none⟩ = some (.int .u64 q) := by simp [go_sem]
    by_cases hpb : p ≤ b
    · have d1 : decide (p ≤ b) = true := decide_eq_true hpb
      go_enter Tryd.func34, Tryd.ntmps34
      go_wp2_with fail
      go_quiet (fail)
      go_upto_region 3 with fail
      have hW : w.grownBy ((w.alloc (.cells #[.int .u64 p, .int .u64 q] 54)).drewN nq) none := ⟨hgr.os, hgr.tape, hgr.output, hgr.size, hgr.block⟩
      have c2 : ((w.alloc (.cells #[.int .u64 p, .int .u64 q] 54)).drewN nq).cell? ⟨g, n * 2 + 1, none⟩ = some (.int .u64 b) := c1
      have fz2 : ((w.alloc (.cells #[.int .u64 p, .int .u64 q] 54)).drewN nq).frozen? ⟨g, n * 2 + 1, none⟩ = false := fz
      have hbox2 : ((w.alloc (.cells #[.int .u64 p, .int .u64 q] 54)).drewN nq).cell? ⟨w.heap.size, 1, none⟩ = some (.int .u64 q) := hbox
      clear c1 fz hgr hbox
      generalize ((w.alloc (.cells #[.int .u64 p, .int .u64 q] 54)).drewN nq) = W at *
      go_region
      go_wp2_with fail
      · rename_i hbq
        go_ret
        have := HE.out W hW q
        rw [show max b q = q from by omega]
        exact ⟨_, rfl, this.1, grown_drew this.2, moved_refl _ _⟩
      · rename_i hbq
        go_ret
        have := HE.out W hW b
        rw [show max b q = b from by omega]
        exact ⟨_, rfl, this.1, grown_drew this.2, moved_refl _ _⟩
    · have d1 : decide (p ≤ b) = false := decide_eq_false hpb
      have d2 : (IntKind.u64.wrap (p - 1) == b) = true := by rw [IntWalk.u64_in _ (by omega)]; simpa using (by omega : p - 1 = b)
      go_enter Tryd.func34, Tryd.ntmps34
      go_wp2_with fail
      go_quiet (fail)
      go_upto_region 3 with fail
      have hW : w.grownBy ((w.alloc (.cells #[.int .u64 p, .int .u64 q] 54)).drewN nq) none := ⟨hgr.os, hgr.tape, hgr.output, hgr.size, hgr.block⟩
      have c2 : ((w.alloc (.cells #[.int .u64 p, .int .u64 q] 54)).drewN nq).cell? ⟨g, n * 2 + 1, none⟩ = some (.int .u64 b) := c1
      have fz2 : ((w.alloc (.cells #[.int .u64 p, .int .u64 q] 54)).drewN nq).frozen? ⟨g, n * 2 + 1, none⟩ = false := fz
      have hbox2 : ((w.alloc (.cells #[.int .u64 p, .int .u64 q] 54)).drewN nq).cell? ⟨w.heap.size, 1, none⟩ = some (.int .u64 q) := hbox
      clear c1 fz hgr hbox
      generalize ((w.alloc (.cells #[.int .u64 p, .int .u64 q] 54)).drewN nq) = W at *
      go_region
      go_wp2_with fail
      · rename_i hbq
        go_ret
        have := HE.out W hW q
        rw [show max b q = q from by omega]
        exact ⟨_, rfl, this.1, grown_drew this.2, moved_refl _ _⟩
      · rename_i hbq
        go_ret
        have := HE.out W hW b
        rw [show max b q = b from by omega]
        exact ⟨_, rfl, this.1, grown_drew this.2, moved_refl _ _⟩
/-- joined, for every interval that begins no sooner. -/
theorem joined_any (B : Nat) (v : Value) (L : List (Int × Int)) (s : Int × Int) (w : World) (hown : OwnS w B 54 v L) (hw : WideS L) (hs : 0 ≤ s.1 ∧ s.1 ≤ 18446744073709551615 ∧ 0 ≤ s.2 ∧ s.2 ≤ 18446744073709551615) (hl : L.length ≤ 100000) (hB : B ≤ w.heap.size) : Calls Tryd.prog 34 #[v, .agg #[.int .u64 s.1, .int .u64 s.2]] w (JoinEnd B v (joinP L s) w) := by
  obtain ⟨p, q⟩ := s
  obtain ⟨p0, p1, q0, q1⟩ := hs
  rcases last_cases L with rfl | ⟨M, t, rfl⟩
  · exact joined_app B v [] p q w hown hw p0 p1 q0 q1 hl hB (.inl rfl)
  · by_cases h : p ≤ t.2 + 1
    · rw [join_to M t (p, q) h]
      exact joined_to B v M t.1 t.2 p q w hown hw p0 p1 q0 q1 hl hB h
    · rw [join_on M t (p, q) h]
      exact joined_app B v (M ++ [t]) p q w hown hw p0 p1 q0 q1 hl hB (.inr ⟨M, t, rfl, by omega⟩)
end Go.Proofs.YthlekifagidijaaDoor
