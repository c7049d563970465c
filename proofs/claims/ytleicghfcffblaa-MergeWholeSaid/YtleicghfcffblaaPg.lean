/- The program's Contents: a map that is filled in a range over what taken hands on; its size. With it, all of the program's contracts that the laws' walks use. -/
import Derived.Sort.MapsRangeIn
import Derived.Maps.OwnIn
import Derived.Test.YtleicghfcffblaaMk
import Derived.Test.YtleicghfcffblaaMQ
import Derived.Test.YtleicghfcffblaaMP
namespace Go.Proofs.Ytleicghfcffblaa
open Go.RowKit Go.Shelf Go.Maps Go.WideMaps
set_option maxRecDepth 20000
set_option linter.unusedVariables false
set_option linter.unusedSimpArgs false
attribute [local go_sem] Oper.semAt_some
def prN (l : List Ok) : List (Int × Int) := (l.filter fun x => decide (0 < x.1.rn)).map fun x => (x.1.off, x.1.ln)
theorem prN_snoc (l : List Ok) (x : Ok) : prN (l ++ [x]) = prN l ++ (if 0 < x.1.rn then [(x.1.off, x.1.ln)] else []) := by
  unfold prN
  rw [List.filter_append, List.map_append]
  by_cases h : 0 < x.1.rn <;> simp [h]
theorem prN_tk (l : List En) (hm : MaysN l) : prN (tk l) = pairN l := by
  induction l with
  | nil => rfl
  | cons e l ih =>
    have h1 := ih (fun x hx => hm x (List.mem_cons_of_mem _ hx))
    have hme := hm e (List.mem_cons_self ..)
    by_cases h : ckN e = 0
    · rw [tk_cyes l e ⟨hme, h⟩]
      by_cases h2 : 0 < e.rn
      · simp only [prN, pairN, List.filter_cons, h, h2, decide_true, Bool.and_self, if_true, List.map_cons] at h1 ⊢
        rw [h1]
      · simp only [prN, pairN, List.filter_cons, h, h2, decide_true, decide_false, Bool.and_false, Bool.true_and, Bool.false_eq_true, if_false] at h1 ⊢
        exact h1
    · rw [tk_cno l e h, h1]
      simp [pairN, List.filter_cons, h]
theorem pair_fits (l : List En) (hm : MaysN l) : ∀ q ∈ pairN l, FitQ q := fun q hq => by
  obtain ⟨e, he, _, _, h1, h2⟩ := (mem_pairN l q).1 hq
  have := hm e he
  unfold MayN at this
  unfold FitQ
  rw [← h1, ← h2]
  exact ⟨this.2.1, this.2.2.1⟩
theorem ownsMap_below {H : Type} {P : Program} {k : TypeId} {R : Value → Option (DataW H × List MemPlace)} {w w' : World} {b n B : Nat} {D : DataW H} (h : w.ownsMap P k R b n D) (hb : Below B w w') (hB : b < B) : w'.ownsMap P k R b n D := by
  obtain ⟨es, clock, h1, h2⟩ := h
  exact ⟨es, clock, (hb.block b hB).trans h1, h2⟩
theorem keeps_below {B : Nat} {W W' : World} (hb : Below W.heap.size W W') : KeepsFrom B W W' := ⟨hb.size, fun k o _ hk _ => (hb.block k (Array.getElem?_eq_some_iff.1 hk).1).trans hk⟩
theorem boxed_below {W W' : World} {b : Nat} {t : TypeId} {v : Value} (h : Boxed W b t v) (hb : Below W.heap.size W W') : Boxed W' b t v := (hb.block b h.lt).trans h
def setP (l : List Ok) : DataW Unit := setOf (.lit (.bool true)) ((prN l).map klN)
theorem setP_yes (l : List Ok) (x : Ok) (h : 0 < x.1.rn) : setP (l ++ [x]) = (setP l).put (klN (x.1.off, x.1.ln)) (.lit (.bool true)) := by
  unfold setP
  rw [prN_snoc, if_pos h, List.map_append]
  exact setOf_snoc _ _ _
theorem setP_no (l : List Ok) (x : Ok) (h : ¬ 0 < x.1.rn) : setP (l ++ [x]) = setP l := by
  unfold setP
  rw [prN_snoc, if_neg h, List.append_nil]
set_option maxRecDepth 100000 in
set_option maxHeartbeats 2000000 in
theorem pcont_any (v : Value) (l : List En) (w : World) (hv : EnsAt w v l) (hm : MaysN l) (hl : l.length ≤ 100000) : Calls Try.prog 29 #[v] w fun x w' => x = .returned (.int .i64 (conN l : Nat)) ∧ Below w.heap.size w w' := by
  have HS := Lib.hid (fun n hn Bs W hW hc => ptaken_stops n hn Bs w W v l hm hv hW hc)
  have hlen := Nat.le_trans (tk_len l) hl
  have HSz : Hid (Maps.size (setP (tk l)) = conN l) := Lib.hid (by unfold setP; rw [prN_tk l hm]; exact size_unl Unit (.lit (.bool true)) (pairN l) (pair_fits l hm))
  have hmm := @run_makeMap Try.prog
  obtain ⟨al, cap, rfl, -, -, -⟩ := hv
  refine (callsIn_wide (n := 3)).1 ?_
  refine callsIn_of_wp_marks Try.func29 rfl trivial ?_ rfl
  simp only [Try.ntmps29, List.size_toArray, List.length_cons, List.length_nil, Nat.reduceAdd, Nat.reduceSub, Array.replicate_succ, Array.replicate_zero, List.push_toArray, List.append_toArray, List.nil_append, List.cons_append]
  gi_wp2
  refine ⟨trivial, (ptaken_in _ _ _ _ _).mono ?_⟩
  rintro x w1 ⟨rfl, rfl⟩
  gi_wp2
  have hm0 := World.ownsMap_made w Try.prog 106 (plainElem (H := Unit) Try.prog 4)
  have hm1 := (hm0.alloc (.cells #[.map (some w.heap.size)] 104)).alloc (.cells #[.slice al l.length cap] 30)
  have bP := (Boxed.new (w.alloc (.map #[] 0)) 104 (.map (some w.heap.size))).alloc (.cells #[.slice al l.length cap] 30)
  have bA := Boxed.new ((w.alloc (.map #[] 0)).alloc (.cells #[.map (some w.heap.size)] 104)) 30 (.slice al l.length cap)
  simp only [World.size_alloc] at bA bP
  have hB0 : Below w.heap.size w (((w.alloc (.map #[] 0)).alloc (.cells #[.map (some w.heap.size)] 104)).alloc (.cells #[.slice al l.length cap] 30)) := (((Below.refl _ w).alloc (Nat.le_refl _) _).alloc (by simp) _).alloc (by simp; omega) _
  have hsz : (((w.alloc (.map #[] 0)).alloc (.cells #[.map (some w.heap.size)] 104)).alloc (.cells #[.slice al l.length cap] 30)).heap.size = w.heap.size + 3 := by simp
  obtain ⟨W0, hW0⟩ : ∃ W0, ((w.alloc (.map #[] 0)).alloc (.cells #[.map (some w.heap.size)] 104)).alloc (.cells #[.slice al l.length cap] 30) = W0 := ⟨_, rfl⟩
  rw [hW0] at bP bA hB0 hsz hm1 ⊢
  clear hW0 hm0
  refine wpIn_rangeFunc_ownH rfl (by omega) (gf := 70) (lb := #[.pointer (some ⟨w.heap.size + 1 + 1, 0, none⟩)]) rfl trivial (enters_of Try.func70 (by kernel_rfl) rfl)
    (HS.out (3 - 1) (by omega) (w.heap.size + 1 + 1) W0 hB0 bA.cell) belowK_t (belowK_b (by omega)) (Below.refl _ _) (fun _ => rfl)
    (fun pre W => (Boxed W (w.heap.size + 1) 104 (.map (some w.heap.size)) ∧ W.ownsMap Try.prog 106 (plainElem (H := Unit) Try.prog 4) w.heap.size pre.length (setP pre)) ∧ Below w.heap.size w W)
    (fun _ _ _ => False)
    (OwnFrom.and (OwnFrom.and (Own.from (boxed_own _ _ _) _) (fun s A B row hs hg hr => hs.kept hg (fun e => by have := (hr _ e.symm).1; omega))) (ownFrom_below (Nat.le_refl _) (by omega)))
    (fun _ _ _ _ _ hs _ _ => hs)
    ⟨⟨bP, hm1⟩, hB0⟩
    (fun x a' W => ∃ Bx, w.heap.size + 1 < Bx ∧ EAt W Bx x.1 ∧ a' = { tmps := #[.slice al l.length cap, undef, .int .i64 0, .pointer (some ⟨w.heap.size + 1, 0, none⟩), .pointer (some ⟨Bx, 0, none⟩), .map (some w.heap.size), .slice al l.length cap, .func (.func 70) #[] #[.pointer (some ⟨w.heap.size + 1 + 1, 0, none⟩)], .agg (eC x.1), undef, undef, undef, undef, undef, undef, undef, undef, undef, undef, undef], defers := [] })
    (fun x a' _ X Y row hs hg hr => by obtain ⟨Bx, h1, h2, h3⟩ := hs; exact ⟨Bx, h1, eat_own Bx x.1 () X Y row h2 hg hr, h3⟩)
    ?assign ?body ?done ?stop
  case assign =>
    rintro lp pre x W K ⟨⟨bP1, hm2⟩, hB1⟩ hK
    have HX := EAt.made W x.1 62
    have HK := Lib.hid (hK _ (W.alloc (.cells (eC x.1) 62)) ((KeepsOthers.alloc _ _).from _) ((Below.refl _ W).alloc hB1.size _) ⟨⟨bP1.alloc _, hm2.alloc _⟩, hB1.alloc hB1.size _⟩ ⟨W.heap.size, bP1.lt, HX, rfl⟩)
    clear hK HX
    unfold eC at HK ⊢
    gi_wp2
    exact HK.out
  case body =>
    rintro lp pre x a' W hlp ⟨r, hr⟩ ⟨⟨bP1, hm2⟩, hB1⟩ ⟨Bx, hBx, bX, rfl⟩ hlt
    have hmx := x.2.1
    unfold MayN at hmx
    have HKey := Lib.hid (key_ok (x.1.off, x.1.ln) ⟨hmx.2.1, hmx.2.2.1⟩)
    have HP := Lib.hid (fun W => pptr_any x.1 W)
    have HO := Lib.hid hm2
    have HBP := Lib.hid bP1
    have HB1 := Lib.hid hB1
    have HX := Lib.hid bX
    have hln : pre.length < maxLen := by unfold maxLen; omega
    clear hr hm2 bP1
    unfold eC at HP ⊢
    obtain ⟨k0, k1, k2, k3⟩ := bX
    by_cases h0 : x.1.rn = 0
    · have hd : decide (x.1.rn = 0) = true := by simpa using h0
      rw [hd] at HP
      have HT := Lib.hid (setP_no pre x (by omega))
      clear h0 hd hmx
      gi_wp2
      refine ⟨trivial, (CallsIn.inRound lp (callsIn_wide.2 (HP.out _))).mono ?_⟩
      rintro y w1 ⟨rfl, hb⟩
      have HK1 := Lib.hid hb
      clear hb k0 k1 k2 k3
      gi_wp2
      refine ⟨keeps_below HK1.out, HK1.out.mono hB1.size, ⟨boxed_below HBP.out HK1.out, ?_⟩, HB1.out.trans (HK1.out.mono hB1.size)⟩
      rw [HT.out]
      exact ((ownsMap_below HO.out HK1.out (by have := hB1.size; have := HBP.out.lt; omega)).mono (by simp))
    · have hd : decide (x.1.rn = 0) = false := by simpa using h0
      rw [hd] at HP
      have HT := Lib.hid (setP_yes pre x (by omega))
      clear h0 hd hmx
      gi_wp2
      refine ⟨trivial, (CallsIn.inRound lp (callsIn_wide.2 (HP.out _))).mono ?_⟩
      rintro y w1 ⟨rfl, hb⟩
      obtain ⟨c0, c1, c2, c3⟩ := EAt.later HX.out hb
      have cP := (boxed_below HBP.out hb).cell
      have hown := ownsMap_below HO.out hb (by have := hB1.size; have := HBP.out.lt; omega)
      have HK1 := Lib.hid hb
      clear hb k0 k1 k2 k3
      gi_wp2_with (gi_at_mapUpdate; refine wpListIn_mapUpdate_own _ rfl _ _ _ 104 rfl 106 4 lawK Try.underlying104 (plainElem (H := Unit) Try.prog 4) w.heap.size pre.length _ rfl hown hln _ _ _ rfl rfl HKey.out _ [] (plainElem_bool Try.underlying4 true) ?_; intro w2 hown2 hgrow2)
      have hKF : KeepsFrom W0.heap.size w1 w2 := KeepsFrom.of_grownBy hgrow2 (fun j e => by cases e; omega)
      have hBW : Below w.heap.size W w2 := (HK1.out.mono hB1.size).trans ((Below.refl _ w1).grown hgrow2 (Nat.le_trans hB1.size HK1.out.size) (fun k e => by cases e; exact Nat.le_refl _))
      refine ⟨(keeps_below HK1.out).trans hKF, hBW, ⟨?_, ?_⟩, HB1.out.trans hBW⟩
      · exact (boxed_below HBP.out HK1.out).kept hgrow2 (fun e => by have := Option.some.inj e; omega)
      · rw [HT.out, List.length_append]
        exact hown2
  case done =>
    rintro D zs W hD rfl ⟨⟨bP1, hown⟩, hB1⟩ hK
    have cP := bP1.cell
    have HB1 := Lib.hid hB1
    clear hB1
    gi_wp2_with (gi_at_len; refine wpListIn_len_own _ rfl _ 104 rfl 106 4 Try.underlying104 _ w.heap.size _ _ rfl hown ?_)
    refine ⟨by simp, .inl ⟨_, _, rfl, run_takeDeferred hK, ?_⟩⟩
    refine ⟨_, results_tmp rfl _ _ _, ?_, HB1.out.trans (belowK_b (w := w) (Nat.le_refl _) W D _ _ (by omega) hK rfl rfl)⟩
    exact ret_i64 (by rw [HSz.out])
  case stop =>
    rintro D c pre W _ _ h _
    exact h.elim
end Go.Proofs.Ytleicghfcffblaa
