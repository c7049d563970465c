/- The fork's loop: what it keeps. -/
import Derived.Test.YtegboojhebhlnaaGw
namespace Go.Proofs.Ytegboojhebhlnaa
open Go.RowKit
set_option linter.unusedVariables false
set_option linter.unusedSimpArgs false
theorem grp_out (k : Int) (L : List Kt) (h : ¬ (0 ≤ k ∧ k < 2048)) : grp k L = [] := by
  unfold grp
  rw [List.filter_eq_nil_iff]
  intro t _ ht
  have := bkt_range t.2
  simp at ht
  exact h (ht ▸ this)
theorem wf_not {k : Int} (h : ¬ (Lit.int .i64 k).wf = true) : ¬ (0 ≤ k ∧ k < 2048) := fun g => h (wf_i64 (by omega) (by omega))
theorem ownK_nilS {w : World} {B : Nat} {l : List Kt} (h : OwnK w B nilS l) : l = [] := by
  obtain ⟨a, c, e⟩ := h.slice
  unfold nilS at e
  injection e with _ e
  exact List.eq_nil_of_length_eq_zero e.symm
theorem ownK_nil' (w : World) (B : Nat) {l : List Kt} (h : l = []) : OwnK w B nilS l := by subst h; exact ownK_nil w B
theorem same_int (k x : Int) : (Lit.int .i64 k).sameKey (.int .i64 x) = decide (k = x) := by
  by_cases h : k = x
  · subst h; simp [Lit.sameKey]
  · simp [Lit.sameKey, h]
structure FkR (w wr : World) (fb mb2 mb r n : Nat) (va : Value) (G2 : Int → Value) (l : List ByteArray) (D : DataW Value) (left : Lit → Bool) (cnt n2 : Nat) : Prop where
  rg : wr.ranges Try.prog 3 tokE mb r n D left cnt
  two : Two wr fb va (.map (some mb2))
  own : OwnK wr w.heap.size va (plc l 0)
  map : MapG wr mb2 n2 G2
  cn : n2 + cnt ≤ n
  done : ∀ k, (Lit.int .i64 k).wf = true → left (.int .i64 k) = false → OwnK wr w.heap.size (G2 k) (grp k (plc l 0))
  todo : ∀ k, (¬ (Lit.int .i64 k).wf = true ∨ left (.int .i64 k) = true) → G2 k = nilS
  nf : va.ownBlock ≠ some fb
  r2 : ∀ k, (G2 k).ownBlock ≠ some fb
  r3 : ∀ k g, (G2 k).ownBlock = some g → va.ownBlock ≠ some g
  r4 : ∀ k j g, (G2 k).ownBlock = some g → (G2 j).ownBlock = some g → k = j
  lf : w.heap.size ≤ fb
  lm : w.heap.size ≤ mb2
  lr : w.heap.size ≤ r
  bel : Below w.heap.size w wr
theorem FkR.row {w wr : World} {fb mb2 mb r n : Nat} {va : Value} {G2 : Int → Value} {l : List ByteArray} {D : DataW Value} {left : Lit → Bool} {cnt n2 : Nat} (h : FkR w wr fb mb2 mb r n va G2 l D left cnt n2) (k : Int) : OwnK wr w.heap.size (G2 k) (grp k (plc l 0)) ∨ G2 k = nilS := by
  by_cases hw : (Lit.int .i64 k).wf = true
  · cases hl : left (.int .i64 k) with
    | false => exact .inl (h.done k hw hl)
    | true => exact .inr (h.todo k (.inr hl))
  · exact .inr (h.todo k (.inl hw))
theorem FkR.rowlt {w wr : World} {fb mb2 mb r n : Nat} {va : Value} {G2 : Int → Value} {l : List ByteArray} {D : DataW Value} {left : Lit → Bool} {cnt n2 : Nat} (h : FkR w wr fb mb2 mb r n va G2 l D left cnt n2) (k : Int) (g : Nat) (hg : (G2 k).ownBlock = some g) : w.heap.size ≤ g ∧ g < wr.heap.size := by
  rcases h.row k with h | h
  · exact h.lt g hg
  · rw [h] at hg; cases hg
theorem iter_ne {wr : World} {mb r n : Nat} {D : DataW Value} {left : Lit → Bool} {cnt : Nat} (h : wr.ranges Try.prog 3 tokE mb r n D left cnt) : ∃ m s e c, wr.heap[r]? = some (.mapIter m s e c) := by
  obtain ⟨es, clock, since, seen, c0, _, _, _, _, hr, _⟩ := h
  exact ⟨_, _, _, _, hr⟩
theorem row_iter {wr : World} {mb r n : Nat} {D : DataW Value} {left : Lit → Bool} {cnt : Nat} (h : wr.ranges Try.prog 3 tokE mb r n D left cnt) {B : Nat} {v : Value} {l : List Kt} (hv : OwnK wr B v l) : v.ownBlock ≠ some r := by
  intro e
  obtain ⟨m, s, e2, c, h1⟩ := iter_ne h
  obtain ⟨cur, T, fz, h2⟩ := hv.cells e
  rw [h1] at h2
  cases h2
theorem two_iter {wr : World} {mb r n : Nat} {D : DataW Value} {left : Lit → Bool} {cnt : Nat} (h : wr.ranges Try.prog 3 tokE mb r n D left cnt) {g : Nat} {x y : Value} (ht : Two wr g x y) : g ≠ r := by
  rintro rfl
  obtain ⟨m, s, e2, c, h1⟩ := iter_ne h
  have := ht.1
  simp [World.cell?, h1] at this
theorem map_iter {wr : World} {mb r n : Nat} {D : DataW Value} {left : Lit → Bool} {cnt : Nat} (h : wr.ranges Try.prog 3 tokE mb r n D left cnt) {mb2 n2 : Nat} {G2 : Int → Value} (hm : MapG wr mb2 n2 G2) : mb2 ≠ r := by
  rintro rfl
  obtain ⟨m, s, e2, c, h1⟩ := iter_ne h
  obtain ⟨es, cl, h2⟩ := hm.block
  rw [h1] at h2
  cases h2
theorem fk_start {w W W' : World} {pb fb mb2 mb n : Nat} {va0 vm va : Value} {G : Int → Value} {l : List ByteArray} {D : DataW Value} (hP : PoolAt w pb va0 vm G l) (h : Fk0 w W fb mb2 va l) (hsz : Maps.size D ≤ n)
    (hG : ∀ k, (Lit.int .i64 k).wf = true → D.atKey (.int .i64 k) (.held nilS) = .held (G k)) (hrg : W'.ranges Try.prog 3 tokE mb W.heap.size n D (Maps.has D) (Maps.size D)) (hg : W.grownBy W' none) :
    FkR w W' fb mb2 mb W.heap.size n va (fun _ => nilS) l D (Maps.has D) (Maps.size D) 0 := by
  have hb : Below W.heap.size W W' := ⟨hg.os, hg.tape, hg.output, hg.size, fun b hb => hg.block b hb (by simp)⟩
  refine ⟨hrg, h.two.below hb, h.own.below hb, h.map.below hb, by omega, fun k hw hl => ?_, fun _ _ => rfl, h.nf, (by simp [nilS, Value.ownBlock]), (by simp [nilS, Value.ownBlock]), (by simp [nilS, Value.ownBlock]), h.lf, h.lm, h.bel.size, h.bel.trans (hb.mono h.bel.size)⟩
  have h1 := hG k hw
  rw [Maps.atKey_of_not_has hl] at h1
  injection h1 with h1
  have h2 := hP.grps k
  rw [← h1] at h2
  exact ownK_nil' _ _ (ownK_nilS h2)
theorem fk_map {w wr w1 X w2 : World} {fb mb2 mb r n : Nat} {va : Value} {G2 : Int → Value} {l : List ByteArray} {D : DataW Value} {left : Lit → Bool} {cnt n2 : Nat} (h : FkR w wr fb mb2 mb r n va G2 l D left cnt n2)
    (hg1 : wr.grownBy w1 (some r)) (hX : Below w1.heap.size w1 X) (h2 : Below X.heap.size X w2) : MapG w2 mb2 n2 G2 ∧ Two w2 fb va (.map (some mb2)) := by
  have hm1 : MapG w1 mb2 n2 G2 := h.map.keep (hg1.block mb2 h.map.lt (fun e => map_iter h.rg h.map (by injection e)))
  have ht1 : Two w1 fb va (.map (some mb2)) := h.two.keep (hg1.block fb h.two.lt (fun e => two_iter h.rg h.two (by injection e)))
  exact ⟨(hm1.below hX).below h2, (ht1.below hX).below h2⟩
theorem fk_step {w wr w1 X w2 w3 : World} {fb mb2 mb r n : Nat} {va v' : Value} {G2 : Int → Value} {l : List ByteArray} {D : DataW Value} {left : Lit → Bool} {cnt cnt1 n2 : Nat} (hml : mb < w.heap.size) (h : FkR w wr fb mb2 mb r n va G2 l D left cnt n2) (x : Int) (hwx : (Lit.int .i64 x).wf = true)
    (hrg1 : w1.ranges Try.prog 3 tokE mb r n D (fun z => left z && !z.sameKey (.int .i64 x)) cnt1) (hlt : cnt1 < cnt)
    (hg1 : wr.grownBy w1 (some r)) (hX : Below w1.heap.size w1 X) (h2 : Below X.heap.size X w2) (hv : OwnK w2 X.heap.size v' (grp x (plc l 0))) (hm3 : MapG w3 mb2 (n2 + 1) (putG G2 x v')) (hg3 : w2.grownBy w3 (some mb2)) :
    FkR w w3 fb mb2 mb r n va (putG G2 x v') l D (fun z => left z && !z.sameKey (.int .i64 x)) cnt1 (n2 + 1) := by
  obtain ⟨hm2, ht2⟩ := fk_map h hg1 hX h2
  have hs1 := hg1.size
  have hsX := hX.size
  have hs2 := h2.size
  have hwr := h.bel.size
  have hrl := h.rg.lt
  have hlm := h.lm
  have hlr := h.lr
  have hlf := h.lf
  have e12 : ∀ b, b < wr.heap.size → b ≠ r → w2.heap[b]? = wr.heap[b]? := fun b hb hn => (h2.block b (by omega)).trans ((hX.block b (by omega)).trans (hg1.block b hb (fun e => hn (by injection e))))
  have e13 : ∀ b, b < wr.heap.size → b ≠ r → b ≠ mb2 → w3.heap[b]? = wr.heap[b]? := fun b hb hn hm => (hg3.block b (by omega) (fun e => hm (by injection e))).trans (e12 b hb hn)
  have b12 : w1.grownBy w2 none := ⟨h2.os.trans hX.os, h2.tape.trans hX.tape, h2.output.trans hX.output, by omega, fun i hi _ => (h2.block i (by omega)).trans (hX.block i hi)⟩
  have rowk : ∀ (v : Value) (L : List Kt), OwnK wr w.heap.size v L → OwnK w3 w.heap.size v L := fun v L ho => ho.keep (fun g hg => e13 g (ho.lt g hg).2 (fun e => row_iter h.rg ho (by rw [hg, e])) (fun e => map_row h.map ho (by rw [hg, e])))
  have hv3 : OwnK w3 w.heap.size v' (grp x (plc l 0)) := (hv.keep (fun g hg => hg3.block g (hv.lt g hg).2 (fun e => map_row hm2 hv (by rw [hg, e])))).mono (by omega)
  have hvl : ∀ g, v'.ownBlock = some g → wr.heap.size ≤ g := fun g hg => by have := (hv.lt g hg).1; omega
  have hval := h.own.lt
  have hfl := h.two.lt
  refine ⟨(hrg1.kept b12 (by simp) (by simp)).kept hg3 (fun e => by injection e with e; omega) (fun e => by injection e with e; exact map_iter h.rg h.map e.symm), ?_, rowk _ _ h.own, hm3, by have := h.cn; omega, ?_, ?_, h.nf, ?_, ?_, ?_, h.lf, h.lm, h.lr, ?_⟩
  · exact h.two.keep (e13 fb h.two.lt (two_iter h.rg h.two) (fun e => by
      subst e
      obtain ⟨es, cl, hh⟩ := h.map.block
      have := h.two.1
      simp [World.cell?, hh] at this))
  · intro k hw hl
    by_cases e : k = x
    · subst e; rw [putG_same]; exact hv3
    · rw [putG_other _ _ _ _ e]
      rw [same_int, decide_eq_false e] at hl
      exact rowk _ _ (h.done k hw (by simpa using hl))
  · intro k hk
    by_cases e : k = x
    · subst e
      rw [same_int, decide_eq_true rfl] at hk
      rcases hk with hk | hk
      · exact absurd hwx hk
      · simp at hk
    · rw [putG_other _ _ _ _ e]
      rw [same_int, decide_eq_false e] at hk
      exact h.todo k (by simpa using hk)
  · intro k hk
    by_cases e : k = x
    · subst e; rw [putG_same] at hk
      have := hvl fb hk
      omega
    · rw [putG_other _ _ _ _ e] at hk; exact h.r2 k hk
  · intro k g hk ha
    by_cases e : k = x
    · subst e; rw [putG_same] at hk
      have := hvl g hk
      have := (hval g ha).2
      omega
    · rw [putG_other _ _ _ _ e] at hk; exact h.r3 k g hk ha
  · intro k j g hk hj
    by_cases e : k = x
    · by_cases e2 : j = x
      · rw [e, e2]
      · subst e
        rw [putG_same] at hk
        rw [putG_other _ _ _ _ e2] at hj
        have := hvl g hk
        have := (h.rowlt j g hj).2
        omega
    · rw [putG_other _ _ _ _ e] at hk
      by_cases e2 : j = x
      · subst e2
        rw [putG_same] at hj
        have := hvl g hj
        have := (h.rowlt k g hk).2
        omega
      · rw [putG_other _ _ _ _ e2] at hj
        exact h.r4 k j g hk hj
  · exact ((h.bel.grown hg1 hwr (fun j hj => by injection hj with hj; omega)).trans ((hX.mono (by omega)).trans (h2.mono (by omega)))).grown hg3 (by omega) (fun j hj => by injection hj with hj; omega)
theorem fk_end {w wr : World} {fb mb2 mb r n : Nat} {va : Value} {G2 : Int → Value} {l : List ByteArray} {D : DataW Value} {left : Lit → Bool} {cnt n2 : Nat} (hg : GoodP l) (h : FkR w wr fb mb2 mb r n va G2 l D left cnt n2) (hn : n ≤ l.length) (hl : ∀ k, left k = false) :
    PoolAt wr fb va (.map (some mb2)) G2 l ∧ (∀ b, blkS fb va (.map (some mb2)) G2 b → w.heap.size ≤ b) := by
  have hcn := h.cn
  refine ⟨⟨hg, h.two, h.own.mono (Nat.zero_le _), .inr ⟨mb2, rfl, ?_⟩, fun k => ?_, h.nf, h.r2, h.r3, h.r4, fun m e => ?_⟩, ?_⟩
  · obtain ⟨D2, hD, hG⟩ := h.map
    exact ⟨D2, hD.mono (by omega), hG⟩
  · by_cases hw : (Lit.int .i64 k).wf = true
    · exact (h.done k hw (hl _)).mono (Nat.zero_le _)
    · rw [h.todo k (.inl hw)]
      exact ownK_nil' _ _ (grp_out k _ (wf_not hw))
  · injection e with e; injection e with e; subst e
    rintro rfl
    obtain ⟨es, cl, hh⟩ := h.map.block
    have := h.two.1
    simp [World.cell?, hh] at this
  · rintro b (rfl | hb | hb | ⟨k, hb⟩)
    · exact h.lf
    · exact (h.own.lt b hb).1
    · injection hb with hb; injection hb with hb; subst hb; exact h.lm
    · exact (h.rowlt k b hb).1
theorem fk_none {w W : World} {fb mb2 : Nat} {va : Value} (h : Fk0 w W fb mb2 va []) :
    PoolAt W fb va (.map (some mb2)) (fun _ => nilS) [] ∧ (∀ b, blkS fb va (.map (some mb2)) (fun _ => nilS) b → w.heap.size ≤ b) := by
  refine ⟨⟨goodP_nil, h.two, h.own.mono (Nat.zero_le _), .inr ⟨mb2, rfl, h.map⟩, fun k => ownK_nil _ _, h.nf, (by simp [nilS, Value.ownBlock]), (by simp [nilS, Value.ownBlock]), (by simp [nilS, Value.ownBlock]), fun m e => ?_⟩, ?_⟩
  · injection e with e; injection e with e; subst e
    rintro rfl
    obtain ⟨es, cl, hh⟩ := h.map.block
    have := h.two.1
    simp [World.cell?, hh] at this
  · rintro b (rfl | hb | hb | ⟨k, hb⟩)
    · exact h.lf
    · exact (h.own.lt b hb).1
    · injection hb with hb; injection hb with hb; subst hb; exact h.lm
    · cases hb
end Go.Proofs.Ytegboojhebhlnaa
