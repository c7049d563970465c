/- Contracts of the program's Count and End: ranges over what taken hands on. -/
import Derived.Test.YthaembnfdkcheaaPe
namespace Go.Proofs.Ythaembnfdkcheaa
open Go.RowKit Go.Shelf
set_option linter.unusedVariables false
set_option linter.unusedSimpArgs false
attribute [local go_sem] Oper.semAt_some
theorem tk_cyes (l : List En) (e : En) (h : MayN e ∧ ckN e = 0) : tk (e :: l) = ⟨e, h⟩ :: tk l := by simp [tk, h]
theorem tk_cno (l : List En) (e : En) (h : ¬ ckN e = 0) : tk (e :: l) = tk l := by simp [tk, h]
def csN (l : List Ok) : Int := (l.map fun x => x.1.rn).sum
def emN (l : List Ok) : Int := l.foldl (fun n x => max n (x.1.off + x.1.ln)) 0
theorem csN_snoc (l : List Ok) (x : Ok) : csN (l ++ [x]) = csN l + x.1.rn := by simp [csN]
theorem emN_snoc (l : List Ok) (x : Ok) : emN (l ++ [x]) = max (emN l) (x.1.off + x.1.ln) := by simp [emN]
theorem csN_tk (l : List En) (hm : MaysN l) : csN (tk l) = cntN l := by
  induction l with
  | nil => rfl
  | cons e l ih =>
    have h1 := ih (fun x hx => hm x (List.mem_cons_of_mem _ hx))
    have hme := hm e (List.mem_cons_self ..)
    by_cases h : ckN e = 0
    · rw [tk_cyes l e ⟨hme, h⟩]
      simp only [csN, cntN, List.map_cons, List.sum_cons, if_pos h] at h1 ⊢
      rw [h1]
    · rw [tk_cno l e h]
      simp only [csN, cntN, List.map_cons, List.sum_cons, if_neg h] at h1 ⊢
      rw [h1]; omega
theorem emN_from (l : List En) (hm : MaysN l) : ∀ n : Int, (tk l).foldl (fun n x => max n (x.1.off + x.1.ln)) n = l.foldl (fun n e => if ckN e = 0 then max n (e.off + e.ln) else n) n := by
  induction l with
  | nil => intro n; rfl
  | cons e l ih =>
    intro n
    have h1 := ih (fun x hx => hm x (List.mem_cons_of_mem _ hx))
    have hme := hm e (List.mem_cons_self ..)
    by_cases h : ckN e = 0
    · rw [tk_cyes l e ⟨hme, h⟩, List.foldl_cons, List.foldl_cons, if_pos h]
      exact h1 _
    · rw [tk_cno l e h, List.foldl_cons, if_neg h]
      exact h1 _
theorem emN_tk (l : List En) (hm : MaysN l) : emN (tk l) = enN l := emN_from l hm 0
theorem csN_bd (l : List Ok) : 0 ≤ csN l ∧ csN l ≤ 4294967295 * l.length := by
  induction l with
  | nil => simp [csN]
  | cons x l ih =>
    have := x.2.1.2.2.2
    simp only [csN, List.map_cons, List.sum_cons, List.length_cons] at ih ⊢
    omega
theorem emN_bd (l : List Ok) : 0 ≤ emN l ∧ emN l ≤ 1099511627776 := by
  have key : ∀ (l : List Ok) (n : Int), 0 ≤ n → n ≤ 1099511627776 → 0 ≤ l.foldl (fun n x => max n (x.1.off + x.1.ln)) n ∧ l.foldl (fun n x => max n (x.1.off + x.1.ln)) n ≤ 1099511627776 := by
    intro l
    induction l with
    | nil => intro n h0 h1; exact ⟨h0, h1⟩
    | cons x l ih =>
      intro n h0 h1
      have := ck_ok x.1 x.2.2
      have h2 := x.2.1
      unfold MayN at h2
      refine ih (max n (x.1.off + x.1.ln)) ?_ ?_ <;> omega
  exact key l 0 (by omega) (by omega)
theorem eat_own {B : Nat} (b : Nat) (e : En) : OwnFrom B (fun (_ : Unit) W => EAt W b e) := fun _ X Y row hs hg hr =>
  ⟨cell_kept hs.1 hg (fun r h => (hr r h).2), cell_kept hs.2.1 hg (fun r h => (hr r h).2), cell_kept hs.2.2.1 hg (fun r h => (hr r h).2), cell_kept hs.2.2.2 hg (fun r h => (hr r h).2)⟩
set_option maxRecDepth 100000 in
set_option maxHeartbeats 2000000 in
theorem pcount_any (v : Value) (l : List En) (w : World) (hv : EnsAt w v l) (hm : MaysN l) (hl : l.length ≤ 100000) : Calls Try.prog 20 #[v] w fun x w' => x = .returned (.int .u64 (cntN l)) ∧ Below w.heap.size w w' := by
  have HS := Lib.hid (fun n hn Bs W hW hc => ptaken_stops n hn Bs w W v l hm hv hW hc)
  have hlen := Nat.le_trans (tk_len l) hl
  have HE := Lib.hid (csN_tk l hm)
  obtain ⟨al, cap, rfl, -, -, -⟩ := hv
  refine (callsIn_wide (n := 3)).1 ?_
  refine callsIn_of_wp_marks Try.func20 rfl trivial ?_ rfl
  simp only [Try.ntmps20, List.size_toArray, List.length_cons, List.length_nil, Nat.reduceAdd, Nat.reduceSub, Array.replicate_succ, Array.replicate_zero, List.push_toArray, List.append_toArray, List.nil_append, List.cons_append]
  gi_wp2
  refine ⟨trivial, (ptaken_in _ _ _ _ _).mono ?_⟩
  rintro x w1 ⟨rfl, rfl⟩
  gi_wp2
  have bN := (Boxed.new w 23 (.int .u64 0)).alloc (.cells #[.slice al l.length cap] 25)
  have bA := Boxed.new (w.alloc (.cells #[.int .u64 0] 23)) 25 (.slice al l.length cap)
  simp only [World.size_alloc] at bA
  have hB0 : Below w.heap.size w ((w.alloc (.cells #[.int .u64 0] 23)).alloc (.cells #[.slice al l.length cap] 25)) := ((Below.refl _ w).alloc (Nat.le_refl _) _).alloc (by simp) _
  have hsz : ((w.alloc (.cells #[.int .u64 0] 23)).alloc (.cells #[.slice al l.length cap] 25)).heap.size = w.heap.size + 2 := by simp
  obtain ⟨W0, hW0⟩ : ∃ W0, (w.alloc (.cells #[.int .u64 0] 23)).alloc (.cells #[.slice al l.length cap] 25) = W0 := ⟨_, rfl⟩
  rw [hW0] at bN bA hB0 hsz ⊢
  clear hW0
  refine wpIn_rangeFunc_ownH rfl (by omega) (gf := 35) (lb := #[.pointer (some ⟨w.heap.size + 1, 0, none⟩)]) rfl trivial (enters_of Try.func35 (by kernel_rfl) rfl)
    (HS.out (3 - 1) (by omega) (w.heap.size + 1) W0 hB0 bA.cell) belowK_t (belowK_b (by omega)) (Below.refl _ _) (fun _ => rfl)
    (fun pre W => Boxed W w.heap.size 23 (.int .u64 (csN pre)) ∧ Below w.heap.size w W)
    (fun _ _ _ => False)
    (OwnFrom.and (Own.from (boxed_own _ _ _) _) (ownFrom_below (Nat.le_refl _) (by omega)))
    (fun _ _ _ _ _ hs _ _ => hs)
    ⟨bN, hB0⟩
    (fun x a' W => ∃ Bx, w.heap.size < Bx ∧ EAt W Bx x.1 ∧ a' = { tmps := #[.slice al l.length cap, undef, .int .u64 0, .pointer (some ⟨w.heap.size, 0, none⟩), .pointer (some ⟨Bx, 0, none⟩), .slice al l.length cap, .func (.func 35) #[] #[.pointer (some ⟨w.heap.size + 1, 0, none⟩)], .agg (eC x.1), undef, undef, undef, undef, undef, undef], defers := [] })
    (fun x a' _ X Y row hs hg hr => by obtain ⟨Bx, h1, h2, h3⟩ := hs; exact ⟨Bx, h1, eat_own Bx x.1 () X Y row h2 hg hr, h3⟩)
    ?assign ?body ?done ?stop
  case assign =>
    rintro lp pre x W K ⟨bN1, hB1⟩ hK
    have HX := EAt.made W x.1 29
    have HK := Lib.hid (hK _ (W.alloc (.cells (eC x.1) 29)) ((KeepsOthers.alloc _ _).from _) ((Below.refl _ W).alloc hB1.size _) ⟨bN1.alloc _, hB1.alloc hB1.size _⟩ ⟨W.heap.size, bN1.lt, HX, rfl⟩)
    clear hK HX
    unfold eC at HK ⊢
    gi_wp2
    exact HK.out
  case body =>
    rintro lp pre x a' W hlp ⟨r, hr⟩ ⟨bN1, hB1⟩ ⟨Bx, hBx, bX, rfl⟩ hlt
    have hbd := csN_bd pre
    have hmx := x.2.1
    unfold MayN at hmx
    have hok := ck_ok x.1 x.2.2
    have hw1 : IntKind.u64.wrap x.1.rn = x.1.rn := by rw [IntKind.wrap_u64] <;> omega
    have hw2 : IntKind.u64.wrap (csN pre + x.1.rn) = csN pre + x.1.rn := by rw [IntKind.wrap_u64] <;> omega
    have cN := bN1.cell
    have fN := bN1.frozen
    obtain ⟨k0, k1, k2, k3⟩ := bX
    have HB := Lib.hid bN1
    have HB1 := Lib.hid hB1
    have HSn := Lib.hid (csN_snoc pre x)
    clear bN1 hB1 hbd hmx hok hr
    unfold eC
    gi_wp2
    refine ⟨(KeepsOthers.setCell _ _ _).from _, (Below.refl _ W).setCell (p := ⟨w.heap.size, 0, none⟩) (Nat.le_refl _) _, ?_, HB1.out.setCell (p := ⟨w.heap.size, 0, none⟩) (Nat.le_refl _) _⟩
    rw [HSn.out]
    exact HB.out.set _
  case done =>
    rintro D zs W hD rfl ⟨bN1, hB1⟩ hK
    have cN := bN1.cell
    have HB1 := Lib.hid hB1
    clear hB1
    gi_wp2
    refine ⟨by simp, .inl ⟨_, _, rfl, run_takeDeferred hK, ?_⟩⟩
    refine ⟨_, results_tmp rfl _ _ _, ?_, HB1.out.trans (belowK_b (w := w) (Nat.le_refl _) W D _ _ (by omega) hK rfl rfl)⟩
    exact ret_u64 HE.out
  case stop =>
    rintro D c pre W _ _ h _
    exact h.elim
end Go.Proofs.Ythaembnfdkcheaa
