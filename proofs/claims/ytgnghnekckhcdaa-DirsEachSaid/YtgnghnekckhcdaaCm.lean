/- The program's Decode: what one column leaves. -/
import Derived.Test.YtgnghnekckhcdaaCk
import Derived.Test.YtgnghnekckhcdaaCl
import Derived.Test.YtgnghnekckhcdaaCe
namespace Go.Proofs.Ytgnghnekckhcdaa
open Go.RowKit Go.Shelf
set_option linter.unusedVariables false
set_option linter.unusedSimpArgs false
def fldN (c : Nat) : Nat := if c = 0 then 0 else if c = 1 then 3 else if c = 2 then 2 else 1
def stvN (c : Nat) (y : Int) : Value := if c = 1 ∨ c = 2 then .int .u32 y else .int .u64 y
/-- A number of column c stored. -/
theorem own_put {W : World} {B n cap g c k : Nat} {E : TypeId} {l : List En} {x : Int} (ho : OwnE W B E (.slice (some ⟨g, 0, none⟩) n cap) l) (hl : l.length = n) (hk : k < n) (hc : c < 4) (hw : wrgN l c k x = 0) (hx : 0 ≤ x ∧ x ≤ 18446744073709551615) :
    OwnE (W.setCell ⟨g, k * 4 + fldN c, none⟩ (stvN c (worN l c k x))) B E (.slice (some ⟨g, 0, none⟩) n cap) (putN l c k x) := by
  have he : l[k]? = some (gE l k) := by
    unfold gE
    rw [List.getD_eq_getElem?_getD, List.getElem?_eq_getElem (by omega)]
    rfl
  subst hl
  have q := fun j u => (World.ownsRow.stored ho j u).1
  rcases (by omega : c = 0 ∨ c = 1 ∨ c = 2 ∨ c = 3) with rfl | rfl | rfl | rfl
  · have h := q (k * 4) (.int .u64 (worN l 0 k x))
    rw [flat4_set0 l k _ _ he] at h
    have e : worN l 0 k x = (putF l 0 k x).id := by unfold worN; rw [if_pos rfl]
    rw [e] at h
    refine owne_conv (l := putN l 0 k x) (by rw [← e] at h; exact h) (by rw [putN_len]) ?_
    unfold putN
    rw [put0]
    congr 2
  · have hx2 : x ≤ 4294967295 := by
      rcases Int.lt_or_le 4294967295 x with h | h
      · unfold wrgN at hw; simp [h] at hw
      · exact h
    have h := q (k * 4 + 3) (.int .u32 (worN l 1 k x))
    rw [flat4_set3 l k _ _ he] at h
    have e : worN l 1 k x = x := by unfold worN; simp
    refine owne_conv (l := putN l 1 k x) h (by rw [putN_len]) ?_
    unfold putN
    rw [put1, e, Int.emod_eq_of_lt hx.1 (by omega)]
  · have hx2 : x ≤ 4294967295 := by
      rcases Int.lt_or_le 4294967295 x with h | h
      · unfold wrgN at hw; simp [h] at hw
      · exact h
    have h := q (k * 4 + 2) (.int .u32 (worN l 2 k x))
    rw [flat4_set2 l k _ _ he] at h
    have e : worN l 2 k x = x := by unfold worN; simp
    refine owne_conv (l := putN l 2 k x) h (by rw [putN_len]) ?_
    unfold putN
    rw [put2, e, Int.emod_eq_of_lt hx.1 (by omega)]
  · have h := q (k * 4 + 1) (.int .u64 (worN l 3 k x))
    rw [flat4_set1 l k _ _ he] at h
    have e : worN l 3 k x = (putF l 3 k x).off := by unfold worN; rw [if_neg (by decide), if_pos rfl]
    rw [e] at h
    refine owne_conv (l := putN l 3 k x) (by rw [← e] at h; exact h) (by rw [putN_len]) ?_
    unfold putN
    rw [put3]
    rfl
/-- The row's block bears what turns no block of its own. -/
theorem own_bears {X Y : World} {B0 B BT : Nat} {E : TypeId} {v : Value} {l : List En} {row : Option Nat} (h : OwnE X B0 E v l) (hne : v.ownBlock ≠ some BT) (hg : X.grownBy Y row) (hr : ∀ r, row = some r → r = BT ∨ (B ≤ r ∧ ∃ o : Obj, X.heap[r]? = some o ∧ o.isCells = false)) : OwnE Y B0 E v l := by
  refine World.ownsRow.kept h hg ?_
  rcases h.2 with ⟨rfl, _⟩ | ⟨g, cap, cur, rfl, _, hgb, _⟩
  · exact .inl rfl
  · refine .inr fun e' => ?_
    rcases hr g e'.symm with rfl | ⟨_, o, ho, hc⟩
    · exact hne rfl
    · rw [hgb] at ho; cases ho; cases hc
/-- What stands between two columns. -/
def DSt (w : World) (BT : Nat) (t : ByteArray) (n : Nat) (al : Option Addr) (cap : Nat) (Ds : List Nat) (l : List En) (a : Nat) (q : Int) (W : World) : Prop :=
  TakAt W BT t (a : Int) q (.slice al n cap) ∧ OwnE W w.heap.size 51 (.slice al n cap) l ∧ Below w.heap.size w W ∧ MkAt Ds W ∧ Ds.Nodup ∧ (∀ D, D ∈ Ds → w.heap.size ≤ D) ∧ l.length = n ∧ MaysN l ∧ a ≤ t.size
/-- What does not turn. -/
def DFix (w : World) (BT : Nat) (t : ByteArray) (n : Nat) (al : Option Addr) (cap : Nat) : Prop := w.heap.size ≤ BT ∧ (Value.slice al n cap).ownBlock ≠ some BT ∧ n ≤ 4096 ∧ t.size ≤ 65536
theorem DSt.later {w W W' : World} {BT n cap a : Nat} {t : ByteArray} {al : Option Addr} {Ds : List Nat} {l : List En} {q : Int} (h : DSt w BT t n al cap Ds l a q W) (hb : Below W.heap.size W W') : DSt w BT t n al cap Ds l a q W' := by
  obtain ⟨h1, h2, h3, h4, h5⟩ := h
  exact ⟨h1.later hb, OwnE.below h2 hb, h3.trans (hb.mono h3.size), fun D hD => (hb.block D (hlt_of (h4 D hD))).trans (h4 D hD), h5⟩
set_option maxRecDepth 100000 in
set_option maxHeartbeats 2000000 in
theorem col_range {nn : Nat} {g : Operand} {p q r s : Nat} {assign body : Code} {Q : Exit → Act → World → Prop} {a0 : Act} (c : Nat) (hc : c < 4) {w w1 W : World} {BT n cap a : Nat} {t : ByteArray} {al : Option Addr} {Ds : List Nat} {l : List En} {bad : Int}
    (hfix : DFix w BT t n al cap) (hst : DSt w BT t n al cap Ds l a bad w1) (hW : W = (w1.alloc (.cells #[.pointer (some ⟨BT, 0, none⟩)] 110)).alloc (.cells #[.func (.func (wfN c)) (wbN c (.slice al n cap)) #[]] 74))
    (hg : a0.eval g = .func (.func 60) #[] #[.pointer (some ⟨w1.heap.size, 0, none⟩), .pointer (some ⟨w1.heap.size + 1, 0, none⟩)])
    (hassign : ∀ (lq : Nat) (x y : Value) (W' : World) (K : Act → World → Prop), K { tmps := (((a0.tmps.setIfInBounds p x).setIfInBounds q y).setIfInBounds r x).setIfInBounds s y, defers := [] } W' →
      assign.wpIn (Fence.wide.inRound lq) (nn - 1 - 1) Try.prog (Exit.then K (fun _ _ _ => False)) { tmps := (a0.tmps.setIfInBounds p x).setIfInBounds q y, defers := [] } W')
    (hbody : ∀ (lq k gb : Nat) (y : Int) (old : Value) (W' : World) (R : World → Prop), k < n → al = some ⟨gb, 0, none⟩ → W'.cell? ⟨BT, 3, none⟩ = some (.slice al n cap) → W'.cell? ⟨gb, k * 4 + fldN c, none⟩ = some old → (∀ o, W'.frozen? ⟨gb, o, none⟩ = false) →
      0 ≤ y → (c = 1 ∨ c = 2 → y ≤ 4294967295) → R (W'.setCell ⟨gb, k * 4 + fldN c, none⟩ (stvN c y)) →
      body.wpIn (Fence.wide.inRound lq) (nn - 1 - 1) Try.prog (Exit.then (fun _ W'' => R W'') (fun _ _ _ => False)) { tmps := (((a0.tmps.setIfInBounds p (.int .i64 (k : Int))).setIfInBounds q (.int .u64 y)).setIfInBounds r (.int .i64 (k : Int))).setIfInBounds s (.int .u64 y), defers := [] } W')
    (hdone : ∀ (D : Nat) (l' : List En) (a' : Nat) (bad' : Int) (W' : World), StepQ t.data.toList c n l a bad l' a' bad' → DSt w BT t n al cap (D :: Ds) l' a' bad' W' → Q .normal (markD D a0) W') :
    (Code.rangeFunc g #[p, q] assign body).wpIn Fence.wide nn Try.prog Q a0 W := by
  obtain ⟨hB, hne, hn, hsz⟩ := hfix
  have hb1 : Below w1.heap.size w1 W := by rw [hW]; exact ((Below.refl _ _).alloc (Nat.le_refl _) _).alloc (by simp) _
  have hs1 : W.heap.size = w1.heap.size + 2 := by rw [hW]; simp
  have q1 : W.cell? ⟨w1.heap.size, 0, none⟩ = some (.pointer (some ⟨BT, 0, none⟩)) := by rw [hW]; simp
  have q2 : W.cell? ⟨w1.heap.size + 1, 0, none⟩ = some (.func (.func (wfN c)) (wbN c (.slice al n cap)) #[]) := by rw [hW]; simp
  have hstW := hst.later hb1
  have hlt1 := hst.1.lt
  obtain ⟨s1, s2, s3, s4, s5, s6, s7, s8, s9⟩ := hstW
  obtain ⟨N, hN, hk, hke⟩ : ∃ N, N ≤ n ∧ (∀ k, k < N → errT t.data.toList c l a bad k = 0) ∧ (N < n → errT t.data.toList c l a bad N ≠ 0) := by
    by_cases hq : bad = 0
    · obtain ⟨N, h1, h2, h3⟩ := first_q t.data.toList c l a n
      refine ⟨N, h1, fun k hk => ?_, fun h => ?_⟩
      · unfold errT; rw [if_neg (fun h => h hq)]; exact h2 k hk
      · unfold errT; rw [if_neg (fun h => h hq)]; exact h3 h
    · exact ⟨0, Nat.zero_le _, fun k h => by omega, fun _ => by unfold errT; rw [if_pos hq]; exact hq⟩
  have hst2 := fun k (hkN : k ≤ N) (hk0 : 0 < N) => stq_keeps (t := t.data.toList) (a := a) hc s7 ((mays_ge s7).1 s8) (by simpa using s9) k (by omega) (fun j hj => by
    have h0 := hk 0 hk0
    have hj' := hk j (by omega)
    by_cases hq : bad = 0
    · unfold errT at hj'; rw [if_neg (fun h => h hq)] at hj'; exact hj'
    · unfold errT at h0; rw [if_pos hq] at h0; exact absurd h0 hq)
  have hrow : ∀ b, (Value.slice al n cap).ownBlock = some b → b < W.heap.size ∧ w.heap.size ≤ b := fun b hb => ⟨(OwnE.lt s2 b hb).2, (OwnE.lt s2 b hb).1⟩
  have hrow1 : ∀ b, (Value.slice al n cap).ownBlock = some b → b < w1.heap.size := fun b hb => (OwnE.lt hst.2.1 b hb).2
  refine range_d2 (n := nn) (val := fun k => .int .i64 (k : Int)) (va2 := fun k => .int .u64 (worN (stq t.data.toList c l a k).1 c k (xq t.data.toList c l a k))) (r := r) (s := s) hg (enters_of Try.func60 (by kernel_rfl) rfl)
    (ptcol1_seq (wfN c) c n (wbN c (.slice al n cap)) al cap t l a bad w1.heap.size (w1.heap.size + 1) BT N W (wfN_enters c) (fun X L k x h1 h2 h3 h4 h5 => wfN_any c hc _ L h3 X k x h1 (by omega) h5) hc s7 s8 hn hsz s9 hN hk hke q1 q2 s1 (by omega) (by omega))
    (Below.refl _ _) ?hT ?hV (fun k S W' => (OwnE W' w.heap.size 51 (.slice al n cap) (stq t.data.toList c l a k).1 ∧ Below w.heap.size w W' ∧ MkAt Ds W') ∧ ∀ b, S b ↔ (Value.slice al n cap).ownBlock = some b) (fun _ _ _ => False) ?hI (fun _ _ _ _ _ h _ _ => h) ?hG
    (fun b => (Value.slice al n cap).ownBlock = some b) ?hS0 ?h0 ?hZ ?hY ?assign ?body ?done (fun _ _ _ _ _ _ h _ => h.elim)
  case hT => rintro b rfl; omega
  case hV => rintro b (rfl | rfl | rfl) <;> omega
  case hI =>
    rintro ⟨k, S⟩ X Y row ⟨⟨h1, h2, h3⟩, h4⟩ hgr hr
    refine ⟨⟨own_bears h1 hne hgr hr, bears_below (β := Unit) (T := fun b => b = BT) (Nat.le_refl _) (B := W.heap.size) (by have := s3.size; omega) (fun b hb => by rw [hb]; exact hB) () X Y row h2 hgr hr, fun D hD => ?_⟩, h4⟩
    refine (hgr.block D (hlt_of (h3 D hD)) (fun e => ?_)).trans (h3 D hD)
    rcases hr D e.symm with h | h
    · obtain ⟨⟨c0, _⟩, _⟩ := s1
      have hDW := s4 D hD
      rw [h] at hDW
      simp [World.cell?, hDW] at c0
    · have := hlt_of (s4 D hD); omega
  case hG =>
    rintro k S W' ⟨⟨h1, h2, h3⟩, h4⟩
    exact ⟨h1.ensAt, fun b hb => (OwnE.lt h1 b ((h4 b).1 hb)).2⟩
  case hS0 =>
    intro b hb
    refine ⟨(hrow b hb).1, ?_⟩
    rintro (h | h | h)
    · have := hrow1 b hb; omega
    · have := hrow1 b hb; omega
    · rw [h] at hb; exact hne hb
  case h0 => exact ⟨⟨s2, s3, s4⟩, fun b => Iff.rfl⟩
  case hZ =>
    intro W' lq o o' hz hl ho hco
    refine TakAt.heap hz (World.putObj_heap_other (fun e => ?_))
    rw [← e] at hl
    omega
  case hY =>
    intro k W' lq o o' hz hl ho hco
    refine TakAt.heap hz (World.putObj_heap_other (fun e => ?_))
    rw [← e] at hl
    omega
  case assign => exact fun lq k W' K hK => hassign lq _ _ W' K hK
  case body =>
    rintro lq k S W' hlq ⟨⟨h1, h2, h3⟩, h4⟩ hy hkN
    obtain ⟨p1, p2, p3⟩ := hst2 k (by omega) (by omega)
    have hek := hk k hkN
    have hq0 : bad = 0 := by
      by_cases hq : bad = 0
      · exact hq
      · unfold errT at hek; rw [if_pos hq] at hek; exact absurd hek hq
    unfold errT at hek
    rw [if_neg (fun h => h hq0)] at hek
    obtain ⟨e1, e2⟩ := errq_ok hek
    have hxb := valV_bd _ e1
    change 0 ≤ xq t.data.toList c l a k ∧ xq t.data.toList c l a k ≤ 18446744073709551615 at hxb
    have hnx : (stq t.data.toList c l a (k + 1)).1 = putN (stq t.data.toList c l a k).1 c k (xq t.data.toList c l a k) := by rw [stq_succ]
    generalize xq t.data.toList c l a k = x at *
    generalize (stq t.data.toList c l a k).1 = L at *
    obtain ⟨gb, cap', hv, hg1, hg2, hle, hcm, hcl, hfr⟩ : ∃ gb cap', Value.slice al n cap = .slice (some ⟨gb, 0, none⟩) L.length cap' ∧ w.heap.size ≤ gb ∧ gb < W'.heap.size ∧ L.length ≤ cap' ∧ cap' ≤ maxLen ∧ (∀ j, j < L.length * 4 → W'.cell? ⟨gb, j, none⟩ = (flat4 L)[j]?) ∧ ∀ j, W'.frozen? ⟨gb, j, none⟩ = false := by
      rcases h1.form with ⟨_, rfl⟩ | h
      · simp at p1; omega
      · exact h
    obtain ⟨rfl, _, rfl⟩ : al = some ⟨gb, 0, none⟩ ∧ n = L.length ∧ cap = cap' := by simpa using hv
    have hfl : fldN c < 4 := by unfold fldN; split; omega; split; omega; split <;> omega
    have hcell : ∃ old, W'.cell? ⟨gb, k * 4 + fldN c, none⟩ = some old := by
      rw [hcl _ (by omega)]
      exact ⟨_, List.getElem?_eq_getElem (by rw [flat4_len]; omega)⟩
    obtain ⟨old, hold⟩ := hcell
    have hw0 : 0 ≤ worN L c k x ∧ (c = 1 ∨ c = 2 → worN L c k x ≤ 4294967295) := by
      have hp := put_may (x := x) (i := c * n + k) p1 (cn_lt hc (by omega)) p2 hxb
      obtain ⟨d1, d2⟩ := cn_div (c := c) (n := n) (k := k) (by omega)
      rw [d1, d2] at hp
      have hpk := hp k (by omega)
      rw [gE_put _ _ _ _ _ (by omega), if_pos rfl] at hpk
      unfold MayN at hpk
      unfold worN
      rcases (by omega : c = 0 ∨ c = 1 ∨ c = 2 ∨ c = 3) with rfl | rfl | rfl | rfl
      · rw [if_pos rfl]; exact ⟨hpk.1.1, fun h => by omega⟩
      · rw [if_neg (by decide), if_neg (by decide)]
        refine ⟨hxb.1, fun _ => ?_⟩
        rcases Int.lt_or_le 4294967295 x with h | h
        · unfold wrgN at e2; simp [h] at e2
        · exact h
      · rw [if_neg (by decide), if_neg (by decide)]
        refine ⟨hxb.1, fun _ => ?_⟩
        rcases Int.lt_or_le 4294967295 x with h | h
        · unfold wrgN at e2; simp [h] at e2
        · exact h
      · rw [if_neg (by decide), if_pos rfl]; exact ⟨hpk.2.1.1, fun h => by omega⟩
    have hput := own_put h1 p1 (by omega) hc e2 hxb
    refine wpIn_mono (hbody lq k gb _ old W' (fun W'' => W'' = W'.setCell ⟨gb, k * 4 + fldN c, none⟩ (stvN c (worN L c k x))) (by omega) rfl hy.2 hold hfr hw0.1 hw0.2 rfl) ?_
    rintro e a' W'' hp
    cases e with
    | normal =>
      subst hp
      refine ⟨S, ⟨⟨by rw [hnx]; exact hput, h2.setCell (p := ⟨gb, k * 4 + fldN c, none⟩) hg1 _, fun D hD => ?_⟩, h4⟩, KeepsS.setCell S W' _ _ ((h4 gb).2 rfl)⟩
      have hDW := h3 D hD
      refine (Below.heap_setCell W' _ _ D (fun e => ?_)).trans hDW
      dsimp only at e
      rw [e] at hDW
      simp [World.cell?, hDW] at hold
    | _ => exact hp.elim
  case done =>
    rintro D S W' hD hSD ⟨⟨h1, h2, h3⟩, h4⟩ hz hDW
    have hN0 : bad ≠ 0 → N = 0 := fun hq => by
      rcases Nat.eq_zero_or_pos N with h | h
      · exact h
      · have h0 := hk 0 h
        unfold errT at h0; rw [if_pos hq] at h0; exact absurd h0 hq
    have hend : (stq t.data.toList c l a N).1.length = n ∧ (∀ j, j < n → MayN (gE (stq t.data.toList c l a N).1 j)) ∧ (stq t.data.toList c l a N).2 ≤ t.data.toList.length := by
      rcases Nat.eq_zero_or_pos N with h | h
      · rw [h]; exact ⟨s7, (mays_ge s7).1 s8, by simpa [stq] using s9⟩
      · exact hst2 N (Nat.le_refl _) h
    refine hdone D (stq t.data.toList c l a N).1 (stq t.data.toList c l a N).2 (finQ N n (errT t.data.toList c l a bad N) bad) W' ?_ ⟨hz, h1, h2, ?_, ?_, ?_, hend.1, (mays_ge hend.1).2 hend.2.1, by simpa using hend.2.2⟩
    · by_cases hq : bad = 0
      · refine .inr ⟨hq, N, hN, fun k hk' => ?_, fun h => ?_, rfl, rfl, ?_⟩
        · have := hk k hk'; unfold errT at this; rw [if_neg (fun h => h hq)] at this; exact this
        · have := hke h; unfold errT at this; rw [if_neg (fun h => h hq)] at this; exact this
        · have he : errT t.data.toList c l a bad N = errq t.data.toList c l a N := by unfold errT; rw [if_neg (fun h => h hq)]
          unfold finQ; rw [he, hq]
      · refine .inl ⟨hq, by rw [hN0 hq]; rfl, by rw [hN0 hq]; rfl, ?_⟩
        unfold finQ errT
        rw [if_pos hq]
        split <;> rfl
    · intro E hE
      rcases List.mem_cons.1 hE with rfl | hE
      · exact hDW
      · exact h3 E hE
    · refine List.nodup_cons.2 ⟨fun hE => ?_, s5⟩
      have := hlt_of (s4 D hE); omega
    · intro E hE
      rcases List.mem_cons.1 hE with rfl | hE
      · have := s3.size; omega
      · exact s6 E hE
end Go.Proofs.Ytgnghnekckhcdaa
