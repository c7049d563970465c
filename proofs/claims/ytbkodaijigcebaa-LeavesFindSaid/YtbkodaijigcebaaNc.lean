/- leaves' Cut. -/
import Derived.Test.YtbkodaijigcebaaNb
import Derived.Test.YtbkodaijigcebaaMJ
import Derived.Test.YtbkodaijigcebaaKv
namespace Go.Proofs.Ytbkodaijigcebaa
open Go.RowKit Go.Shelf
set_option maxRecDepth 20000
set_option linter.unusedVariables false
set_option linter.unusedSimpArgs false
attribute [local go_sem] Oper.semAt_some
theorem pinfoRs : (Try.prog.info? 24).map (fun i => (i.zero, i.size, i.bytes)) = some (some (.slice none 0 0), 1, 24) := by kernel_rfl
theorem EnsAt.grownR {X Y : World} {row : Option Nat} {v : Value} {l : List En} (h : EnsAt X v l) (hg : X.grownBy Y row) (hr : ∀ r, row = some r → ∃ o : Obj, X.heap[r]? = some o ∧ o.isCells = false) : EnsAt Y v l := by
  obtain ⟨a, cap, rfl, h1, h2, hc⟩ := h
  refine ⟨a, cap, rfl, h1, h2, fun k t ht => ?_⟩
  obtain ⟨g, off, rfl, hg', c0, c1, c2, c3⟩ := hc k t ht
  have hne : row ≠ some g := by
    intro e
    obtain ⟨o, ho, hn⟩ := hr g e
    have c := c0
    unfold World.cell? at c
    simp only [ho] at c
    cases o <;> first | (simp [Obj.isCells] at hn; done) | (simp at c; done)
  have hb : Y.heap[g]? = X.heap[g]? := hg.block g hg' (fun e => hne e.symm)
  exact ⟨g, off, rfl, Nat.lt_of_lt_of_le hg' hg.size, (World.cell?_of_block (a := ⟨g, off + k * 4, none⟩) hb).trans c0, (World.cell?_of_block (a := ⟨g, off + k * 4 + 1, none⟩) hb).trans c1, (World.cell?_of_block (a := ⟨g, off + k * 4 + 2, none⟩) hb).trans c2, (World.cell?_of_block (a := ⟨g, off + k * 4 + 3, none⟩) hb).trans c3⟩
theorem EnsAt.keepB {X Y : World} {v : Value} {l : List En} (h : EnsAt X v l) (hs : X.heap.size ≤ Y.heap.size) (hk : ∀ a n c, v = .slice (some a) n c → a.block < X.heap.size → Y.heap[a.block]? = X.heap[a.block]?) : EnsAt Y v l := by
  obtain ⟨a, cap, rfl, h1, h2, hc⟩ := h
  refine ⟨a, cap, rfl, h1, h2, fun k t ht => ?_⟩
  obtain ⟨g, off, rfl, hg', c0, c1, c2, c3⟩ := hc k t ht
  have hb : Y.heap[g]? = X.heap[g]? := hk ⟨g, off, none⟩ _ _ rfl hg'
  exact ⟨g, off, rfl, Nat.lt_of_lt_of_le hg' hs, (World.cell?_of_block (a := ⟨g, off + k * 4, none⟩) hb).trans c0, (World.cell?_of_block (a := ⟨g, off + k * 4 + 1, none⟩) hb).trans c1, (World.cell?_of_block (a := ⟨g, off + k * 4 + 2, none⟩) hb).trans c2, (World.cell?_of_block (a := ⟨g, off + k * 4 + 3, none⟩) hb).trans c3⟩
theorem ens_base {w : World} {v : Value} {l : List En} (h : EnsAt w v l) : ∃ a cap g off, v = .slice a l.length cap ∧ l.length ≤ cap ∧ cap ≤ maxLen ∧ (l ≠ [] → a = some ⟨g, off, none⟩) := by
  obtain ⟨a, cap, rfl, h1, h2, hc⟩ := h
  cases l with
  | nil => exact ⟨a, cap, 0, 0, rfl, h1, h2, fun h => absurd rfl h⟩
  | cons e l =>
    obtain ⟨g, off, rfl, _⟩ := hc 0 e rfl
    exact ⟨_, cap, g, off, rfl, h1, h2, fun _ => rfl⟩
/-- An append of one slice to a row of slices, run; where the row lies. -/
theorem rsappend_run (W : World) (B : Nat) (ty : TypeId) (v x : Value) (vs : List Value) (b c : Nat) (hown : OwnV W B 24 v vs) (hx : W.cell? ⟨b, 0, none⟩ = some x) (h1 : x.oneCell' = true) (hl : vs.length ≤ 1000000) (hB : B ≤ W.heap.size) :
    ∃ v' w', (Builtin.append_ #[33, 33] ty #[v, .slice (some ⟨b, 0, none⟩) 1 c]).run Try.prog W = .ok v' w' ∧ OwnV w' B 24 v' (vs ++ [x]) ∧ W.grownBy w' v.ownBlock ∧ (v'.ownBlock = v.ownBlock ∨ ∃ g, v'.ownBlock = some g ∧ W.heap.size ≤ g) := by
  obtain ⟨i0, hi, hz0, hz1, hz2⟩ := info_parts pinfoRs
  have hnews : ∀ j u, [x][j]? = some u → W.cell? ((⟨b, 0, none⟩ : Addr).add j) = some u := by
    intro j u hu
    match j, hu with
    | 0, hu => simp only [List.getElem?_cons_zero, Option.some.injEq] at hu; rw [← hu]; exact hx
    | j + 1, hu => simp at hu
  have hone : ∀ u ∈ [x], u.oneCell' = true := by intro u hu; simp at hu; subst hu; exact h1
  have ht := Try.underlying33
  obtain ⟨v', w', hr, h2, h3, h4⟩ := run_append_own (P := Try.prog) W B 33 ty 24 i0 _ 1 24 ht hi hz0 hz1 hz2 rfl (by omega) v vs.length vs hown ⟨b, 0, none⟩ 1 c [x] rfl hnews hone (by unfold maxLen; omega) (by omega) hB
  refine ⟨v', w', hr, vals_conv h2 (by simp) rfl, h3, ?_⟩
  rcases hown.2 with ⟨rfl, hn⟩ | ⟨g, cap, cur, rfl, hbg, hg, hnc, hcm, hcs, htake⟩
  · obtain ⟨_, _, hr2, h22, _, _⟩ := run_append_own (P := Try.prog) W W.heap.size 33 ty 24 i0 _ 1 24 ht hi hz0 hz1 hz2 rfl (by omega) (.slice none 0 0) vs.length vs ⟨hown.1, .inl ⟨rfl, hn⟩⟩ ⟨b, 0, none⟩ 1 c [x] rfl hnews hone (by unfold maxLen; omega) (by omega) (Nat.le_refl _)
    rw [hr] at hr2
    injection hr2 with e1 e2
    subst e1 e2
    rcases h22.2 with ⟨rfl, _⟩ | ⟨g, cap, cur, rfl, hg, _⟩
    · exact .inl rfl
    · exact .inr ⟨g, rfl, hg⟩
  · have hL : vs.length = vs.length * i0.size := by rw [hz1]; omega
    by_cases hroom : vs.length + 1 ≤ cap
    · have hr2 := run_append_room (P := Try.prog) W 33 ty 24 i0 ht hi g vs.length cap cur hg ⟨b, 0, none⟩ 1 c [x] (by rw [hz1]; rfl) hnews hone hroom (by rw [hz1]; simp; omega)
      rw [hr] at hr2
      injection hr2 with e1 e2
      rw [e1]
      exact .inl rfl
    · have hr2 := run_append_grow (P := Try.prog) W 33 ty 24 i0 _ ht hi hz0 ⟨g, 0, none⟩ vs.length cap vs hL (World.ownsRow.cells hown rfl) ⟨b, 0, none⟩ 1 c [x] (by rw [hz1]; rfl) hnews (by omega) (by omega) (growslice_fits (by omega) (by rw [hz2]; omega))
      rw [hr] at hr2
      injection hr2 with e1 e2
      rw [e1]
      exact .inr ⟨_, rfl, Nat.le_refl _⟩
/-- What Cut keeps while pieces come: the box, the row of pieces, the pieces, which lie elsewhere. -/
structure CutP (w : World) (n0 : Nat) (ps : List (List En)) (vo : Value) (vs : List Value) (W : World) : Prop where
  bx : Boxed W n0 33 vo
  row : OwnV W (n0 + 1) 24 vo vs
  pcs : Pcs W vs ps
  off : ∀ (k : Nat) (a : Addr) (n c : Nat), vs[k]? = some (Value.slice (some a) n c) → n0 < a.block ∧ a.block < W.heap.size ∧ vo.ownBlock ≠ some a.block
  bel : Below n0 w W
def blkC (n0 : Nat) (vo : Value) (b : Nat) : Prop := b = n0 ∨ vo.ownBlock = some b
section
variable {w W W2 W5 : World} {n0 : Nat} {ps : List (List En)} {vo : Value} {vs : List Value}
theorem CutP.lt (h : CutP w n0 ps vo vs W) : ∀ b, blkC n0 vo b → b < W.heap.size := by
  rintro b (rfl | hb)
  · exact h.bx.lt
  · exact (h.row.lt b hb).2
theorem CutP.grown {row : Option Nat} (h : CutP w n0 ps vo vs W) (hg : W.grownBy W2 row) (hr : ∀ r, row = some r → n0 ≤ r ∧ ∃ o : Obj, W.heap[r]? = some o ∧ o.isCells = false) : CutP w n0 ps vo vs W2 := by
  refine ⟨h.bx.kept hg (fun e => ?_), World.ownsRow.kept h.row hg ?_, ⟨h.pcs.1, fun k x p hx hp => (h.pcs.2 k x p hx hp).grownR hg (fun r e => (hr r e).2)⟩, fun k a n c hk => ?_, h.bel.grown hg (Nat.le_of_lt h.bx.lt) (fun r e => (hr r e).1)⟩
  · obtain ⟨_, o, ho, hn⟩ := hr n0 e.symm
    rw [show W.heap[n0]? = _ from h.bx] at ho
    cases ho; cases hn
  · rcases h.row.2 with ⟨rfl, _⟩ | ⟨g, cap, cur, rfl, _, hgb, _⟩
    · exact .inl rfl
    · refine .inr fun e' => ?_
      obtain ⟨_, o, ho, hn⟩ := hr g e'.symm
      rw [hgb] at ho
      cases ho; cases hn
  · obtain ⟨o1, o2, o3⟩ := h.off k a n c hk
    exact ⟨o1, Nat.lt_of_lt_of_le o2 hg.size, o3⟩
theorem CutP.step {x v5 : Value} {p : List En} {o : Obj} (h : CutP w n0 ps vo vs W) (hb2 : Below W.heap.size W W2) (hx : EnsAt W2 x p) (hxb : ∀ a n c, x = .slice (some a) n c → W.heap.size ≤ a.block ∧ a.block < W2.heap.size)
    (ho5 : OwnV W5 (n0 + 1) 24 v5 (vs ++ [x])) (hg5 : (W2.alloc o).grownBy W5 vo.ownBlock) (hl : v5.ownBlock = vo.ownBlock ∨ ∃ g, v5.ownBlock = some g ∧ (W2.alloc o).heap.size ≤ g) :
    CutP w n0 (ps ++ [p]) v5 (vs ++ [x]) (W5.setCell ⟨n0, 0, none⟩ v5) ∧ KeepsS (blkC n0 vo) (blkC n0 v5) W (W5.setCell ⟨n0, 0, none⟩ v5) ∧ Boxed W5 n0 33 vo := by
  have hn0 : n0 < W.heap.size := h.bx.lt
  have hba : Below W.heap.size W (W2.alloc o) := hb2.alloc hb2.size o
  have bx2 : Boxed (W2.alloc o) n0 33 vo := (hba.block n0 hn0).trans h.bx
  have row2 : OwnV (W2.alloc o) (n0 + 1) 24 vo vs := h.row.below hba
  have bx5 : Boxed W5 n0 33 vo := bx2.kept hg5 (bx2.not_row (by decide) row2)
  have hne5 : some n0 ≠ v5.ownBlock := bx5.not_row (by decide) ho5
  have hset : ∀ b, b ≠ n0 → (W5.setCell ⟨n0, 0, none⟩ v5).heap[b]? = W5.heap[b]? := fun b hb => Below.heap_setCell _ _ _ _ (by simpa using hb)
  have hsz : (W5.setCell ⟨n0, 0, none⟩ v5).heap.size = W5.heap.size := by simp
  have hs2 := hb2.size
  have hsa : (W2.alloc o).heap.size = W2.heap.size + 1 := by simp
  have hs5 : W2.heap.size + 1 ≤ W5.heap.size := by have := hg5.size; rw [hsa] at this; exact this
  have keepP : ∀ b, b ≠ n0 → vo.ownBlock ≠ some b → b < (W2.alloc o).heap.size → (W5.setCell ⟨n0, 0, none⟩ v5).heap[b]? = (W2.alloc o).heap[b]? := fun b h1 h2 h3 => (hset b h1).trans (hg5.block b h3 (fun e => h2 e.symm))
  refine ⟨⟨bx5.set v5, ho5.keep (fun k hk => hset k (fun e => hne5 (by rw [hk, e]))), ?_, ?_, ?_⟩, ⟨?_, ?_, ?_⟩, bx5⟩
  · refine Pcs.snoc ⟨h.pcs.1, fun k y q hy hq => ((h.pcs.2 k y q hy hq).below hba).keepB (by rw [hsz, hsa]; exact hs5) (fun a n c e hlt => ?_)⟩ ((hx.below ((Below.refl _ W2).alloc (Nat.le_refl _) o)).keepB (by rw [hsz, hsa]; exact hs5) (fun a n c e hlt => ?_))
    · subst e
      obtain ⟨o1, o2, o3⟩ := h.off k a n c hy
      exact keepP a.block (by omega) o3 hlt
    · have hq := hxb a n c e
      exact keepP a.block (by omega) (fun e2 => by have := (h.row.lt _ e2).2; omega) hlt
  · intro k a n c hk
    rw [hsz]
    rcases Nat.lt_or_ge k vs.length with hlt | hge
    · rw [List.getElem?_append_left hlt] at hk
      obtain ⟨o1, o2, o3⟩ := h.off k a n c hk
      refine ⟨o1, by omega, fun e => ?_⟩
      rcases hl with hl | ⟨g, hl, hg⟩
      · exact o3 (by rw [← hl]; exact e)
      · rw [hl] at e; cases e; rw [hsa] at hg; omega
    · rw [List.getElem?_append_right hge] at hk
      have h0 : k - vs.length = 0 := by
        have := (List.getElem?_eq_some_iff.1 hk).1
        simp at this
        omega
      rw [h0] at hk
      simp at hk
      have hq := hxb a n c hk
      refine ⟨by omega, by omega, fun e => ?_⟩
      rcases hl with hl | ⟨g, hl, hg⟩
      · rw [hl] at e
        have := (h.row.lt _ e).2; omega
      · rw [hl] at e; cases e; rw [hsa] at hg; omega
  · exact ((h.bel.trans (hba.mono (Nat.le_of_lt hn0))).grown hg5 (by rw [hsa]; omega) (fun k hk => by have := (h.row.lt k hk).1; omega)).setCell (p := ⟨n0, 0, none⟩) (Nat.le_refl _) v5
  · rw [hsz]; omega
  · intro b o' hb ho
    have h1 : b ≠ n0 := fun e => hb (.inl e)
    have h2 : vo.ownBlock ≠ some b := fun e => hb (.inr e)
    have h3 := hlt_of ho
    exact (keepP b h1 h2 (by rw [hsa]; omega)).trans ((hba.block b h3).trans ho)
  · rintro b (rfl | hb)
    · exact .inl (.inl rfl)
    · rcases hl with hl | ⟨g, hl, hg⟩
      · exact .inl (.inr (by rw [← hl]; exact hb))
      · rw [hl] at hb; cases hb; rw [hsa] at hg; exact .inr (by omega)
end
/-- What holds when k pieces are come. -/
def CutI (w : World) (n0 : Nat) (P : List (List En)) (k : Nat) (S : Nat → Prop) (W : World) : Prop := ∃ vo vs, CutP w n0 (P.take k) vo vs W ∧ ∀ b, S b ↔ blkC n0 vo b
theorem cutI_bears (w : World) (n0 : Nat) (P : List (List En)) (B : Nat) (hB : n0 ≤ B) : Bears2 (fun _ => False) B (CutI w n0 P) := by
  rintro ⟨k, S⟩ X Y row ⟨vo, vs, h, hS⟩ hg hr
  refine ⟨vo, vs, h.grown hg (fun r e => ?_), hS⟩
  rcases hr r e with h | h
  · exact h.elim
  · exact ⟨Nat.le_trans hB h.1, h.2⟩
theorem CutI.lt {w : World} {n0 : Nat} {P : List (List En)} {k : Nat} {S : Nat → Prop} {W : World} (h : CutI w n0 P k S W) : ∀ b, S b → b < W.heap.size := by
  obtain ⟨vo, vs, h, hS⟩ := h
  exact fun b hb => h.lt b ((hS b).1 hb)
set_option maxRecDepth 100000 in
set_option maxHeartbeats 4000000 in
theorem cut14_any (v : Value) (l : List En) (n : Int) (w : World) (hv : EnsAt w v l) (hm : MaysN l) (hl : l.length ≤ 200) (hn : -9223372036854775808 ≤ n ∧ n ≤ 9223372036854775807) :
    Calls Try.prog 13 #[v, .int .i64 n] w fun e w' => ∃ v', e = .returned v' ∧ PcsAt w' v' (cutZ n l) ∧ Below w.heap.size w w' := by
  by_cases h1 : n < 1
  · have hz : cutZ n l = [] := by unfold cutZ; rw [if_pos h1]
    have HZ := Lib.hid hz
    have d1 : decide (n < 1) = true := decide_eq_true h1
    obtain ⟨av, cv, rfl⟩ := ensAt_form hv
    clear hz hv h1
    go_enter Try.func13, Try.ntmps13
    go_wp2_with fail
    go_ret
    exact ⟨_, rfl, by rw [HZ.out]; exact ⟨[], valsAt_nil _, pcs_nil _⟩, Below.refl _ _⟩
  · obtain ⟨N, rfl⟩ : ∃ N : Nat, n = N := ⟨n.toNat, by omega⟩
    have hN : 1 ≤ N ∧ N ≤ 9223372036854775807 := by omega
    have HZ : Hid (cutZ (N : Int) l = cutN N l) := Lib.hid (by unfold cutZ; rw [if_neg h1, Int.toNat_natCast])
    have d1 : decide ((N : Int) < 1) = false := decide_eq_false h1
    have HV := Lib.hid hv
    have HCH := Lib.hid (fun X (hX : Below w.heap.size w X) => chunk_any v l N X (hv.below hX) hN)
    obtain ⟨a, cap, g, off, rfl, hcap, hmx, ha⟩ := ens_base hv
    have HSQ := Lib.hid (fun X B0 B1 (c0 : X.cell? ⟨B0, 0, none⟩ = some (.slice a l.length cap)) (c1 : X.cell? ⟨B1, 0, none⟩ = some (.int .i64 N)) => chunk1_seq l g off cap N B0 B1 a X hN ha hcap hmx (by omega) c0 c1)
    have HA := Lib.hid ha
    have HN := Lib.hid hN
    clear hv ha hcap hmx hN
    refine (callsIn_wide (n := 3)).1 ?_
    refine callsIn_of_wp_marks Try.func13 rfl trivial ?_ rfl
    simp only [Try.ntmps13, List.size_toArray, List.length_cons, List.length_nil, Nat.reduceAdd, Nat.reduceSub, Array.replicate_succ, Array.replicate_zero, List.push_toArray, List.append_toArray, List.nil_append, List.cons_append]
    gi_wp2
    refine ⟨trivial, (callsIn_wide.2 (HCH.out _ ((Below.refl _ w).alloc (Nat.le_refl _) _))).mono ?_⟩
    rintro x w2 ⟨rfl, hc0, hc1, hb2⟩
    have hP2 : CutP w w.heap.size [] (.slice none 0 0) [] w2 := ⟨(hb2.block _ (by simp)).trans (Boxed.new w _ _), ownV_nil _ _ _, pcs_nil _, fun k a n c h => by simp at h, ((Below.refl _ w).alloc (Nat.le_refl _) _).trans (hb2.mono (by simp))⟩
    have hz2 := ecell_lt hc1
    have HP2 := Lib.hid hP2
    have HS2 := Lib.hid (HSQ.out w2 _ _ hc0 hc1)
    simp only [World.size_alloc] at hz2
    simp only [World.size_alloc] at HS2
    clear hc0 hc1 hP2 HSQ HCH hb2
    gi_wp2
    refine range_d1 (n := 3) (val := fun k => chV g off l.length N k) (p := 12) (r := 6) rfl (enters_of Try.func55 (by kernel_rfl) rfl) HS2.out (Below.refl _ _) (fun _ h => h.elim) ?hV
      (CutI w w.heap.size (cutN N l)) (fun _ _ _ => False) ?hI (fun _ _ _ _ _ h _ _ => h) (fun k S W h => ⟨trivial, h.lt⟩) (fun b => b = w.heap.size) ?hS0 ?h0 (fun _ _ _ _ _ _ _ _ => trivial) ?assign ?body ?done (fun _ _ _ _ _ _ h _ => h.elim)
    case hV => rintro b (rfl | rfl) <;> omega
    case hI => exact cutI_bears w _ _ _ (by omega)
    case hS0 => rintro b rfl; exact ⟨by omega, by omega⟩
    case h0 => exact ⟨_, _, HP2.out, fun b => by unfold blkC; simp [Value.ownBlock]⟩
    case assign =>
      intro lq k W' K hK
      simp only [List.setIfInBounds_toArray, List.set_cons_zero, List.set_cons_succ] at hK ⊢
      gi_wp2
      exact hK
    case body =>
      rintro lq k S W hlq ⟨vo, vs, hP, hS⟩ hk
      have hS' : S = blkC w.heap.size vo := funext fun b => propext (hS b)
      subst hS'
      clear hS
      have hkl := (cut_lt N HN.out.1 k l).1 hk
      have hat := cut_at N HN.out.1 k l hkl
      have hne : l ≠ [] := by rintro rfl; simp at hkl
      have ha := HA.out hne
      subst ha
      have hx := chV_ens (HV.out.below hP.bel) N k hkl
      have hpl : ((l.drop (k * N)).take N).length ≤ 200 := by rw [List.length_take, List.length_drop]; omega
      have hnx : (cutN N l).take (k + 1) = (cutN N l).take k ++ [(l.drop (k * N)).take N] := by rw [List.take_add_one, hat]; rfl
      have hvl : vs.length ≤ 1000000 := by
        have := hP.pcs.1
        rw [List.length_take] at this
        have := cut_len N HN.out.1 l
        omega
      have HCL := Lib.hid (fun X (hX : Below W.heap.size W X) => pclone_any (chV g off l.length N k) ((l.drop (k * N)).take N) X (hx.below hX) (by omega))
      have HNX := Lib.hid hnx
      obtain ⟨ax, cx, hcv⟩ := ensAt_form hx
      obtain ⟨av, cv, rfl⟩ := hP.row.slice
      have HP := Lib.hid hP
      have hdb : Below W.heap.size W W.drew := Below.drew (Below.refl _ _)
      have hdc := (hP.bx.cell : W.drew.cell? _ = _)
      have hdf := (hP.bx.frozen : W.drew.frozen? _ = _)
      have HVL := Lib.hid hvl
      unfold CloneEnd at HCL
      clear hkl hat hne hx hnx hP hvl hk
      generalize (l.drop (k * N)).take N = p at *
      generalize chV g off l.length N k = cvx at *
      subst hcv
      generalize p.length = pl at *
      have HCL2 := Lib.hid (HCL.out _ hdb)
      clear hdb HCL
      simp only [List.setIfInBounds_toArray, List.set_cons_zero, List.set_cons_succ]
      gi_wp2
      refine round_any (by kernel_rfl) (by kernel_rfl) (by rintro ⟨a, w, h⟩; exact h) ?_
      change wpAny _ _ _ _ _ _ _ W.drew
      refine wpAny_take (i := 1) (v := ?_) rfl (by kernel_rfl) (by kernel_rfl) (by kernel_rfl) (fun _ _ _ h => h) (Or.inl ⟨by rfl, ?y1⟩) ?_
      case y1 => intro w; go_simp; try with_reducible rfl
      try simp only [Act.put, List.setIfInBounds_toArray, List.set_cons_zero, List.set_cons_succ]
      refine wpAny_ready (rs := [0, 2]) (by kernel_rfl) (by simp) ?_
      refine AllReady.cons rfl (fun K hK => ?_) (AllReady.cons rfl (fun K hK => ?_) AllReady.nil)
      · go_simp
        refine hK _ _ ?_
        clear hK K
        try simp only [Act.put, List.setIfInBounds_toArray, List.set_cons_zero, List.set_cons_succ]
        refine wpAny_ready (rs := [2]) (by kernel_rfl) (by simp) ?_
        refine AllReady.cons rfl (fun K hK => ?_) AllReady.nil
        go_simp
        refine HCL2.out.mono ?_
        rintro e w3 ⟨v3, rfl, he3, hk3, hb3⟩
        have hbW : Below W.heap.size W w3 := (Below.drew (Below.refl _ _)).trans (hb3 : Below W.heap.size W.drew w3)
        obtain ⟨a3, c3, rfl⟩ := ensAt_form he3
        have hcc := (HP.out.bx.cell)
        have hw3 : w3.cell? ⟨w.heap.size, 0, none⟩ = some _ := ecell_later hbW hcc
        have hba3 : Below W.heap.size W (w3.alloc (.cells #[.slice a3 p.length c3] 24)) := hbW.alloc hbW.size _
        have hw4 : (w3.alloc (.cells #[.slice a3 p.length c3] 24)).cell? ⟨w.heap.size, 0, none⟩ = some _ := ecell_later hba3 hcc
        obtain ⟨v5, w5, hr5, ho5, hg5, hl5⟩ := rsappend_run (w3.alloc (.cells #[.slice a3 p.length c3] 24)) (w.heap.size + 1) 33 (.slice av vs.length cv) (.slice a3 p.length c3) vs w3.heap.size 1 (HP.out.row.below hba3) (by simp) rfl HVL.out (by have := hba3.size; have := HP.out.bx.lt; omega)
        obtain ⟨hst, hkp, hb5⟩ := HP.out.step hbW he3 hk3 ho5 hg5 hl5
        have f5c := hb5.cell
        have f5f := hb5.frozen
        obtain ⟨a5, c5, hq5⟩ := ho5.slice
        rw [List.length_append, List.length_singleton] at hq5
        subst hq5
        rw [← HNX.out] at hst
        have HN : Hid (CutI w w.heap.size (cutN N l) (k + 1) (blkC w.heap.size (.slice a5 (vs.length + 1) c5)) (w5.setCell ⟨w.heap.size, 0, none⟩ (.slice a5 (vs.length + 1) c5)) ∧ KeepsS (blkC w.heap.size (.slice av vs.length cv)) (blkC w.heap.size (.slice a5 (vs.length + 1) c5)) W (w5.setCell ⟨w.heap.size, 0, none⟩ (.slice a5 (vs.length + 1) c5))) := Lib.hid ⟨⟨_, _, hst, fun b => Iff.rfl⟩, hkp⟩
        clear hst hkp hb5 ho5 hg5 hl5 he3 hk3 hb3 hbW hba3 hcc
        go_wp2_with fail
        try simp only [Act.put, List.setIfInBounds_toArray, List.set_cons_zero, List.set_cons_succ]
        refine wpAny_ready (rs := [3]) (by kernel_rfl) (by simp) ?_
        refine AllReady.cons rfl (fun K hK => ?_) AllReady.nil
        go_simp
        refine hK _ _ ?_
        clear hK K
        try simp only [Act.put, List.setIfInBounds_toArray, List.set_cons_zero, List.set_cons_succ]
        refine wpAny_ready (rs := [4]) (by kernel_rfl) (by simp) ?_
        refine AllReady.cons rfl (fun K hK => ?_) AllReady.nil
        refine Lib.wp_append_run _ _ _ _ _ rfl _ _ rfl rfl _ _ hr5 ?_
        refine hK _ _ ?_
        clear hK K
        try simp only [Act.put, List.setIfInBounds_toArray, List.set_cons_zero, List.set_cons_succ]
        refine wpAny_ready (rs := [5]) (by kernel_rfl) (by simp) ?_
        refine AllReady.cons rfl (fun K hK => ?_) AllReady.nil
        go_simp
        refine hK _ _ ?_
        clear hK K
        try simp only [Act.put, List.setIfInBounds_toArray, List.set_cons_zero, List.set_cons_succ]
        refine wpAny_done (by kernel_rfl) ?_ _
        exact ⟨_, HN.out⟩
      · go_simp
        refine HCL2.out.mono ?_
        rintro e w3 ⟨v3, rfl, he3, hk3, hb3⟩
        have hbW : Below W.heap.size W w3 := (Below.drew (Below.refl _ _)).trans (hb3 : Below W.heap.size W.drew w3)
        obtain ⟨a3, c3, rfl⟩ := ensAt_form he3
        have hcc := (HP.out.bx.cell)
        have hw3 : w3.cell? ⟨w.heap.size, 0, none⟩ = some _ := ecell_later hbW hcc
        have hba3 : Below W.heap.size W (w3.alloc (.cells #[.slice a3 p.length c3] 24)) := hbW.alloc hbW.size _
        have hw4 : (w3.alloc (.cells #[.slice a3 p.length c3] 24)).cell? ⟨w.heap.size, 0, none⟩ = some _ := ecell_later hba3 hcc
        obtain ⟨v5, w5, hr5, ho5, hg5, hl5⟩ := rsappend_run (w3.alloc (.cells #[.slice a3 p.length c3] 24)) (w.heap.size + 1) 33 (.slice av vs.length cv) (.slice a3 p.length c3) vs w3.heap.size 1 (HP.out.row.below hba3) (by simp) rfl HVL.out (by have := hba3.size; have := HP.out.bx.lt; omega)
        obtain ⟨hst, hkp, hb5⟩ := HP.out.step hbW he3 hk3 ho5 hg5 hl5
        have f5c := hb5.cell
        have f5f := hb5.frozen
        obtain ⟨a5, c5, hq5⟩ := ho5.slice
        rw [List.length_append, List.length_singleton] at hq5
        subst hq5
        rw [← HNX.out] at hst
        have HN : Hid (CutI w w.heap.size (cutN N l) (k + 1) (blkC w.heap.size (.slice a5 (vs.length + 1) c5)) (w5.setCell ⟨w.heap.size, 0, none⟩ (.slice a5 (vs.length + 1) c5)) ∧ KeepsS (blkC w.heap.size (.slice av vs.length cv)) (blkC w.heap.size (.slice a5 (vs.length + 1) c5)) W (w5.setCell ⟨w.heap.size, 0, none⟩ (.slice a5 (vs.length + 1) c5))) := Lib.hid ⟨⟨_, _, hst, fun b => Iff.rfl⟩, hkp⟩
        clear hst hkp hb5 ho5 hg5 hl5 he3 hk3 hb3 hbW hba3 hcc
        go_wp2_with fail
        try simp only [Act.put, List.setIfInBounds_toArray, List.set_cons_zero, List.set_cons_succ]
        refine wpAny_ready (rs := [0, 3]) (by kernel_rfl) (by simp) ?_
        refine AllReady.cons rfl (fun K hK => ?_) (AllReady.cons rfl (fun K hK => ?_) AllReady.nil)
        · go_simp
          refine hK _ _ ?_
          clear hK K
          try simp only [Act.put, List.setIfInBounds_toArray, List.set_cons_zero, List.set_cons_succ]
          refine wpAny_ready (rs := [3]) (by kernel_rfl) (by simp) ?_
          refine AllReady.cons rfl (fun K hK => ?_) AllReady.nil
          go_simp
          refine hK _ _ ?_
          clear hK K
          try simp only [Act.put, List.setIfInBounds_toArray, List.set_cons_zero, List.set_cons_succ]
          refine wpAny_ready (rs := [4]) (by kernel_rfl) (by simp) ?_
          refine AllReady.cons rfl (fun K hK => ?_) AllReady.nil
          refine Lib.wp_append_run _ _ _ _ _ rfl _ _ rfl rfl _ _ hr5 ?_
          refine hK _ _ ?_
          clear hK K
          try simp only [Act.put, List.setIfInBounds_toArray, List.set_cons_zero, List.set_cons_succ]
          refine wpAny_ready (rs := [5]) (by kernel_rfl) (by simp) ?_
          refine AllReady.cons rfl (fun K hK => ?_) AllReady.nil
          go_simp
          refine hK _ _ ?_
          clear hK K
          try simp only [Act.put, List.setIfInBounds_toArray, List.set_cons_zero, List.set_cons_succ]
          refine wpAny_done (by kernel_rfl) ?_ _
          exact ⟨_, HN.out⟩
        · go_simp
          refine hK _ _ ?_
          clear hK K
          try simp only [Act.put, List.setIfInBounds_toArray, List.set_cons_zero, List.set_cons_succ]
          refine wpAny_ready (rs := [0]) (by kernel_rfl) (by simp) ?_
          refine AllReady.cons rfl (fun K hK => ?_) AllReady.nil
          go_simp
          refine hK _ _ ?_
          clear hK K
          try simp only [Act.put, List.setIfInBounds_toArray, List.set_cons_zero, List.set_cons_succ]
          refine wpAny_ready (rs := [4]) (by kernel_rfl) (by simp) ?_
          refine AllReady.cons rfl (fun K hK => ?_) AllReady.nil
          refine Lib.wp_append_run _ _ _ _ _ rfl _ _ rfl rfl _ _ hr5 ?_
          refine hK _ _ ?_
          clear hK K
          try simp only [Act.put, List.setIfInBounds_toArray, List.set_cons_zero, List.set_cons_succ]
          refine wpAny_ready (rs := [5]) (by kernel_rfl) (by simp) ?_
          refine AllReady.cons rfl (fun K hK => ?_) AllReady.nil
          go_simp
          refine hK _ _ ?_
          clear hK K
          try simp only [Act.put, List.setIfInBounds_toArray, List.set_cons_zero, List.set_cons_succ]
          refine wpAny_done (by kernel_rfl) ?_ _
          exact ⟨_, HN.out⟩
    case done =>
      rintro D S W hD hSD ⟨vo, vs, hP, hS⟩ _ hDW
      rw [List.take_length] at hP
      obtain ⟨av, cv, rfl⟩ := hP.row.slice
      have hvc := hP.bx.cell
      have HH := Lib.hid (And.intro hD (And.intro hDW hP))
      clear hP hS hDW hD
      gi_wp2
      obtain ⟨h1, h2, h3⟩ := HH.out
      refine ⟨by simp, .inl ⟨_, _, rfl, run_takeDeferred h2, ?_⟩⟩
      have hR := h3.grown (grownBy_putObj' _ D (.deferred none)) (fun r e => by cases e; exact ⟨by omega, _, h2, rfl⟩)
      exact ⟨_, results_tmp rfl _ _ _, _, rfl, by rw [HZ.out]; exact ⟨vs, hR.row.valsAt, hR.pcs⟩, hR.bel⟩
end Go.Proofs.Ytbkodaijigcebaa
