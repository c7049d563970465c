/- Several texts, one behind the other: Gh, Gi. -/
import Derived.Test.YtleicghfcffblaaMS
import Derived.Test.YtleicghfcffblaaRc
import Derived.Deep.RegionLawGrows
import Derived.Deep.DeepCutAuto
import Derived.Deep.CutRange
import Derived.Deep.RegionHeld3
/- strings.Clone; a result in two cells; an append as one step of a region that draws; a pool on its way to one content more. -/
namespace Go.Proofs.Ytleicghfcffblaa
open Go.RowKit
set_option maxRecDepth 20000
set_option linter.unusedVariables false
set_option linter.unusedSimpArgs false
theorem sclone_any (s : ByteArray) (w : World) (hs : s.size ≤ 281474976710656) : Calls Try.prog 75 #[.string s] w fun e w' => e = .returned (.string s) ∧ Below w.heap.size w w' := by
  have HC := Lib.hid (fun W => clo_any s W hs)
  go_enter Try.func75, Try.ntmps75
  go_wp2_with fail
  refine (HC.out _).mono ?_
  rintro e w1 ⟨rfl, hb⟩
  have HB := Lib.hid hb
  clear hb
  go_wp2_with fail
  go_ret
  exact ⟨rfl, HB.out⟩
/-- A place in a cell, as the one result. -/
theorem results_ct1 {fn : Func} {p : Tmp} {ty : TypeId} (h : fn.results = #[.cell p ty]) (tmps : Array Value) (w : World) (g : Nat) (x y : Value) (d : TypeDesc) (hp : tmps.getD p undef = .pointer (some ⟨g, 0, none⟩)) (c0 : w.cell? ⟨g, 0, none⟩ = some x) (c1 : w.cell? ⟨g, 1, none⟩ = some y)
    (hu : Try.prog.underlying ty = some d) (hd : (match d with | .struct _ | .array _ _ => true | _ => false) = true) (hi : (Try.prog.info? ty).map (·.size) = some 2) :
    (results fn tmps).run Try.prog w = .ok (.agg #[x, y]) w := by
  have hl := two_load w g ty x y d c0 c1 hu hd hi
  have hp' : tmps[p]?.getD undef = .pointer (some ⟨g, 0, none⟩) := by simpa using hp
  simp [results, h, hp', asAddr, hl]
/-- An append of one, as one step of a region that draws. -/
theorem step_kappend {ops : Array Oper} {o : Oper} {a : Act} {w : World} {K : Act → World → Prop} {Q : Exit → Act → World → Prop} {E : Prop}
    (hg : o.guard = none) (s x : Operand) (hop : o.op = Op.call { callee := Callee.builtin Builtin.append, args := #[s, x], argTypes := #[112, 112] })
    (v : Value) (L : List Kt) (t : Kt) (g c : Nat) (hown : OwnK w 0 v L) (h3 : Three w g t) (hl : L.length ≤ 1000000) (hs : a.eval s = v) (hx : a.eval x = .slice (some ⟨g, 0, none⟩) 1 c)
    (hK : ∀ v' w', OwnK w' 0 v' (L ++ [t]) → w.grownBy w' v.ownBlock → (v'.ownBlock = v.ownBlock ∨ ∃ g, v'.ownBlock = some g ∧ w.heap.size ≤ g) → K (a.put o.dst v') w') :
    if Region.wanted o (yielded ops a.tmps) = true then Oper.wp Try.prog o a w K Q else E := by
  have hw : Region.wanted o (yielded ops a.tmps) = true := by simp [Region.wanted, hg]
  rw [if_pos hw]
  obtain ⟨v', w', hrun, h1, h2, h4⟩ := kappend_run w o.type v L t g c hown h3 hl
  unfold Oper.wp
  simp [execOp, hop, resolve, invoke, builtin, hs, hx, hrun, Result.andThen]
  exact hK v' w' h1 h2 h4
/-- A pool on its way: the map is there, nothing is put yet. -/
structure MidL (w W : World) (pb rb kb mb : Nat) (va vm : Value) (G : Int → Value) (l : List ByteArray) (s : ByteArray) : Prop where
  two : Two W pb va (.map (some mb))
  all : OwnK W 0 va (plc l 0)
  map : MapG W mb l.length G
  grps : ∀ k, OwnK W 0 (G k) (grp k (plc l 0))
  kt : Three W kb (totF l, s)
  rs : Two W rb (.int .u64 0) (.int .u32 0)
  lr : w.heap.size ≤ rb
  lk : w.heap.size ≤ kb
  nk : rb ≠ kb
  nm : mb ≠ pb
  om : vm = .map (some mb) ∨ w.heap.size ≤ mb
  la : ∀ g, va.ownBlock = some g → g < w.heap.size
  lg : ∀ k g, (G k).ownBlock = some g → g < w.heap.size
  kept : Kept (blkS pb va vm G) (blkS pb va vm G) w W
theorem MidL.below {w W X : World} {pb rb kb mb : Nat} {va vm : Value} {G : Int → Value} {l : List ByteArray} {s : ByteArray} (h : MidL w W pb rb kb mb va vm G l s) (hb : Below W.heap.size W X) : MidL w X pb rb kb mb va vm G l s :=
  ⟨h.two.below hb, h.all.below hb, h.map.below hb, fun k => (h.grps k).below hb, h.kt.below hb, h.rs.below hb, h.lr, h.lk, h.nk, h.nm, h.om, h.la, h.lg, h.kept.trans (Kept.below _ hb)⟩
/-- Behind the first append: the row has turned. -/
structure Mid2 (w W : World) (pb rb kb mb : Nat) (va vm va' : Value) (G : Int → Value) (l : List ByteArray) (s : ByteArray) : Prop where
  two : Two W pb va' (.map (some mb))
  all : OwnK W 0 va' (plc l 0 ++ [(totF l, s)])
  map : MapG W mb l.length G
  grps : ∀ k, OwnK W 0 (G k) (grp k (plc l 0))
  kt : Three W kb (totF l, s)
  rs : Two W rb (.int .u64 0) (.int .u32 0)
  oa : va'.ownBlock = va.ownBlock ∨ ∃ g, va'.ownBlock = some g ∧ w.heap.size ≤ g ∧ g ≠ rb ∧ g ≠ kb ∧ g ≠ mb ∧ g ≠ pb
  kept : Kept (blkS pb va vm G) (blkS pb va vm G) w W
theorem Mid2.below {w W X : World} {pb rb kb mb : Nat} {va vm va' : Value} {G : Int → Value} {l : List ByteArray} {s : ByteArray} (h : Mid2 w W pb rb kb mb va vm va' G l s) (hb : Below W.heap.size W X) : Mid2 w X pb rb kb mb va vm va' G l s :=
  ⟨h.two.below hb, h.all.below hb, h.map.below hb, fun k => (h.grps k).below hb, h.kt.below hb, h.rs.below hb, h.oa, h.kept.trans (Kept.below _ hb)⟩
end Go.Proofs.Ytleicghfcffblaa
/- What the two appends and the map's store leave of a pool. -/
namespace Go.Proofs.Ytleicghfcffblaa
open Go.RowKit
set_option maxRecDepth 20000
set_option linter.unusedVariables false
set_option linter.unusedSimpArgs false
theorem Two.keep {w w' : World} {g : Nat} {x y : Value} (h : Two w g x y) (hk : w'.heap[g]? = w.heap[g]?) : Two w' g x y :=
  ⟨(World.cell?_of_block (a := ⟨g, 0, none⟩) hk).trans h.1, (World.cell?_of_block (a := ⟨g, 1, none⟩) hk).trans h.2.1, (World.frozen?_of_block (a := ⟨g, 0, none⟩) hk).trans h.2.2.1, (World.frozen?_of_block (a := ⟨g, 1, none⟩) hk).trans h.2.2.2⟩
theorem Three.keep {w w' : World} {g : Nat} {t : Kt} (h : Three w g t) (hk : w'.heap[g]? = w.heap[g]?) : Three w' g t :=
  ⟨(World.cell?_of_block (a := ⟨g, 0, none⟩) hk).trans h.1, (World.cell?_of_block (a := ⟨g, 1, none⟩) hk).trans h.2.1, (World.cell?_of_block (a := ⟨g, 2, none⟩) hk).trans h.2.2⟩
theorem kept_set (S : Nat → Prop) (w : World) (p : Addr) (v : Value) (hp : S p.block) : Kept S S w (w.setCell p v) :=
  ⟨rfl, rfl, rfl, by simp, fun b hb hn => Below.heap_setCell _ _ _ _ (by intro e; subst e; exact hn hp), fun _ h => .inl h⟩
theorem kept_grown (S : Nat → Prop) {w w' : World} {row : Option Nat} (hg : w.grownBy w' row) (hr : ∀ k, row = some k → S k ∨ w.heap.size ≤ k) : Kept S S w w' :=
  ⟨hg.os, hg.tape, hg.output, hg.size, fun b hb hn => hg.block b hb (fun e => by rcases hr b e.symm with h | h; exact hn h; omega), fun _ h => .inl h⟩
theorem OwnK.form3 {w : World} {B : Nat} {v : Value} {l : List Kt} (h : OwnK w B v l) : ∃ a n c, v = .slice a n c := by
  obtain ⟨a, c, e⟩ := h.slice
  exact ⟨_, _, _, e⟩
theorem Mid2.map7 {w W X w7 : World} {pb rb kb mb : Nat} {va vm va' : Value} {G : Int → Value} {l : List ByteArray} {s : ByteArray} (h : Mid2 w W pb rb kb mb va vm va' G l s) (hX : Below W.heap.size W X) {k : Int} (hgr : X.grownBy w7 (G k).ownBlock) : MapG w7 mb l.length G :=
  (h.below hX).map.keep (hgr.block mb (h.below hX).map.lt (fun e => map_row (h.below hX).map ((h.below hX).grps k) e.symm))
theorem Mid2.two7 {w W X w7 : World} {pb rb kb mb : Nat} {va vm va' : Value} {G : Int → Value} {l : List ByteArray} {s : ByteArray} (h : Mid2 w W pb rb kb mb va vm va' G l s) (hX : Below W.heap.size W X) {k : Int} (hgr : X.grownBy w7 (G k).ownBlock) (hn : (G k).ownBlock ≠ some pb) : Two w7 pb va' (.map (some mb)) :=
  (h.below hX).two.keep (hgr.block pb (h.below hX).two.lt (fun e => hn e.symm))
theorem Kept.set2 {S S' : Nat → Prop} {w w' : World} (h : Kept S S' w w') (r : Nat) (hr : w.heap.size ≤ r) (x y : Value) : Kept S S' w ((w'.setCell ⟨r, 0, none⟩ x).setCell ⟨r, 1, none⟩ y) :=
  ⟨h.os, h.tape, h.output, by simpa using h.size, fun b hb hn => by rw [Below.heap_setCell _ _ _ _ (by simp; omega), Below.heap_setCell _ _ _ _ (by simp; omega)]; exact h.same b hb hn, h.own⟩
theorem PoolAt.set2 {w : World} {pb : Nat} {va vm : Value} {G : Int → Value} {l : List ByteArray} (h : PoolAt w pb va vm G l) (r : Nat) (hr : ¬ blkS pb va vm G r) (x y : Value) : PoolAt ((w.setCell ⟨r, 0, none⟩ x).setCell ⟨r, 1, none⟩ y) pb va vm G l :=
  h.keep (fun b hb => by rw [Below.heap_setCell _ _ _ _ (by intro e; simp at e; subst e; exact hr hb), Below.heap_setCell _ _ _ _ (by intro e; simp at e; subst e; exact hr hb)])
theorem MidL.pbl {w W : World} {pb rb kb mb : Nat} {va vm : Value} {G : Int → Value} {l : List ByteArray} {s : ByteArray} (h : MidL w W pb rb kb mb va vm G l s) : pb < W.heap.size := h.two.lt
theorem mid2_of {w W X w6 : World} {pb rb kb mb : Nat} {va vm v' : Value} {G : Int → Value} {l : List ByteArray} {s : ByteArray} (hP : PoolAt w pb va vm G l) (h : MidL w W pb rb kb mb va vm G l s) (hX : Below W.heap.size W X)
    (hown : OwnK w6 0 v' (plc l 0 ++ [(totF l, s)])) (hgr : X.grownBy w6 va.ownBlock) (hloc : v'.ownBlock = va.ownBlock ∨ ∃ g, v'.ownBlock = some g ∧ X.heap.size ≤ g) :
    Two w6 pb va (.map (some mb)) ∧ Mid2 w (w6.setCell ⟨pb, 0, none⟩ v') pb rb kb mb va vm v' G l s := by
  have hx := h.below hX
  have hpb := hx.two.lt
  have hrb := hx.rs.lt
  have hkb := hx.kt.lt
  have hmb := hx.map.lt
  have hpw := hP.two.lt
  have hlr := h.lr
  have hlk := h.lk
  have hnp : some pb ≠ va.ownBlock := fun e => hP.n1 e.symm
  have e6 : ∀ b, b < X.heap.size → some b ≠ va.ownBlock → w6.heap[b]? = X.heap[b]? := fun b hb hn => hgr.block b hb hn
  have hva : ∀ b, w.heap.size ≤ b → some b ≠ va.ownBlock := fun b hb e => by have := h.la b e.symm; omega
  have hmv : some mb ≠ va.ownBlock := fun e => map_row hx.map hx.all e.symm
  have es : ∀ b, b ≠ pb → (w6.setCell ⟨pb, 0, none⟩ v').heap[b]? = w6.heap[b]? := fun b hb => Below.heap_setCell _ _ _ _ (by simpa using hb)
  have h2 : Two w6 pb va (.map (some mb)) := hx.two.keep (e6 pb hpb hnp)
  have hvp : v'.ownBlock ≠ some pb := by
    rcases hloc with e | ⟨g, e, hg⟩
    · rw [e]; exact hP.n1
    · rw [e]; intro e2; injection e2 with e2; omega
  refine ⟨h2, ?_⟩
  refine ⟨?_, ?_, ?_, ?_, ?_, ?_, ?_, ?_⟩
  · refine ⟨World.cell?_setCell_same _ _ _ h2.1, ?_, by simpa using h2.2.2.1, by simpa using h2.2.2.2⟩
    rw [World.cell?_setCell_other (h := by simp)]; exact h2.2.1
  · exact hown.keep (fun k hk => es k (fun e => hvp (by rw [hk, e])))
  · exact hx.map.keep ((es mb h.nm).trans (e6 mb hmb hmv))
  · intro k
    exact (hx.grps k).keep (fun g hg => (es g (fun e => hP.n2 k (by rw [hg, e]))).trans (e6 g ((hx.grps k).lt g hg).2 (fun e => hP.n3 k g hg e.symm)))
  · exact hx.kt.keep ((es kb (by omega)).trans (e6 kb hkb (hva kb hlk)))
  · exact hx.rs.keep ((es rb (by omega)).trans (e6 rb hrb (hva rb hlr)))
  · rcases hloc with e | ⟨g, e, hg⟩
    · exact .inl e
    · exact .inr ⟨g, e, by have := hx.kept.size; omega, by omega, by omega, by omega, by omega⟩
  · exact (hx.kept.trans (kept_grown _ hgr (fun k hk => .inl (.inr (.inl hk))))).trans (kept_set _ _ _ _ (.inl rfl))
/-- The whole of it, behind the map's store. -/
theorem pool_of {w W X w7 w8 : World} {pb rb kb mb : Nat} {va vm va' gv' : Value} {G : Int → Value} {l : List ByteArray} {s : ByteArray} (hP : PoolAt w pb va vm G l) (hml : ∀ k g, (G k).ownBlock = some g → g < w.heap.size) (hal : ∀ g, va.ownBlock = some g → g < w.heap.size) (hnm : mb ≠ pb) (hom : vm = .map (some mb) ∨ w.heap.size ≤ mb) (hlr : w.heap.size ≤ rb) (hlk : w.heap.size ≤ kb)
    (hg : GoodP (l ++ [s])) (h : Mid2 w W pb rb kb mb va vm va' G l s) (hX : Below W.heap.size W X)
    (hown : OwnK w7 0 gv' (grp (bkt s) (plc l 0) ++ [(totF l, s)])) (hgr : X.grownBy w7 (G (bkt s)).ownBlock) (hloc : gv'.ownBlock = (G (bkt s)).ownBlock ∨ ∃ g, gv'.ownBlock = some g ∧ X.heap.size ≤ g)
    (hmap : MapG w8 mb (l.length + 1) (putG G (bkt s) gv')) (hgr8 : w7.grownBy w8 (some mb)) :
    PoolAt w8 pb va' (.map (some mb)) (putG G (bkt s) gv') (l ++ [s]) ∧ Kept (blkS pb va vm G) (blkS pb va' (.map (some mb)) (putG G (bkt s) gv')) w w8 ∧ Two w8 rb (.int .u64 0) (.int .u32 0) ∧ Three w8 kb (totF l, s) ∧ ¬ blkS pb va' (.map (some mb)) (putG G (bkt s) gv') rb := by
  have hx := h.below hX
  have hpb := hx.two.lt
  have hrb := hx.rs.lt
  have hkb := hx.kt.lt
  have hmb := hx.map.lt
  have hpw := hP.two.lt
  have hwX := hx.kept.size
  have hs7 := hgr.size
  have hgl := hml (bkt s)
  have e7 : ∀ b, b < X.heap.size → some b ≠ (G (bkt s)).ownBlock → w7.heap[b]? = X.heap[b]? := fun b hb hn => hgr.block b hb hn
  have e8 : ∀ b, b < w7.heap.size → b ≠ mb → w8.heap[b]? = w7.heap[b]? := fun b hb hn => hgr8.block b hb (fun e => hn (by injection e))
  have hmv : some mb ≠ (G (bkt s)).ownBlock := fun e => map_row hx.map (hx.grps _) e.symm
  have hm7 : MapG w7 mb l.length G := hx.map.keep (e7 mb hmb hmv)
  have hgm : gv'.ownBlock ≠ some mb := map_row hm7 hown
  have hrm : rb ≠ mb := by
    rintro rfl
    obtain ⟨es, cl, hh⟩ := hx.map.block
    have := hx.rs.1
    simp [World.cell?, hh] at this
  have hkm : kb ≠ mb := by
    rintro rfl
    obtain ⟨es, cl, hh⟩ := hx.map.block
    have := hx.kt.1
    simp [World.cell?, hh] at this
  have e78 : ∀ b, b < X.heap.size → some b ≠ (G (bkt s)).ownBlock → b ≠ mb → w8.heap[b]? = X.heap[b]? := fun b hb hn hm => (e8 b (by omega) hm).trans (e7 b hb hn)
  have hnew : ∀ b, w.heap.size ≤ b → some b ≠ (G (bkt s)).ownBlock := fun b hb e => by have := hgl b e.symm; omega
  have hav : va'.ownBlock ≠ some mb := map_row hx.map hx.all
  have hag : ∀ g, va'.ownBlock = some g → some g ≠ (G (bkt s)).ownBlock := by
    intro g hg e
    rcases hx.oa with e2 | ⟨g2, e2, h2, _⟩
    · exact hP.n3 _ g e.symm (by rw [← e2]; exact hg)
    · rw [e2] at hg; injection hg with hg; subst hg
      exact hnew g2 h2 e
  have hall : OwnK w8 0 va' (plc l 0 ++ [(totF l, s)]) := hx.all.keep (fun g hg => e78 g (hx.all.lt g hg).2 (hag g hg) (fun e => hav (by rw [hg, e])))
  have hgg : OwnK w8 0 gv' (grp (bkt s) (plc l 0) ++ [(totF l, s)]) := hown.keep (fun g hg => e8 g (hown.lt g hg).2 (fun e => hgm (by rw [hg, e])))
  have hap : va'.ownBlock ≠ some pb := by
    rcases hx.oa with e2 | ⟨g2, e2, _, _, _, _, h2⟩
    · rw [e2]; exact hP.n1
    · rw [e2]; intro e; injection e with e; exact h2 e
  have hgp : gv'.ownBlock ≠ some pb := by
    rcases hloc with e2 | ⟨g2, e2, h2⟩
    · rw [e2]; exact hP.n2 _
    · rw [e2]; intro e; injection e with e; omega
  refine ⟨⟨hg, hx.two.keep (e78 pb hpb (fun e => hP.n2 _ e.symm) (fun e => hnm e.symm)), by rw [plc_snoc]; exact hall, .inr ⟨mb, rfl, by rw [List.length_append]; exact hmap⟩, ?_, hap, ?_, ?_, ?_, ?_⟩, ?_, hx.rs.keep (e78 rb hrb (hnew rb hlr) hrm), hx.kt.keep (e78 kb hkb (hnew kb hlk) hkm), ?_⟩
  · intro k
    rw [plc_snoc, grp_append, grp_one]
    by_cases e : k = bkt s
    · subst e
      rw [putG_same, if_pos rfl]
      exact hgg
    · rw [putG_other _ _ _ _ e, if_neg (fun e2 => e e2.symm), List.append_nil]
      exact (hx.grps k).keep (fun g hg => e78 g ((hx.grps k).lt g hg).2 (fun e2 => e (hP.n4 k (bkt s) g hg e2.symm)) (fun e2 => map_row hx.map (hx.grps k) (by rw [hg, e2])))
  · intro k
    by_cases e : k = bkt s
    · subst e; rw [putG_same]; exact hgp
    · rw [putG_other _ _ _ _ e]; exact hP.n2 k
  · intro k g hk
    by_cases e : k = bkt s
    · subst e
      rw [putG_same] at hk
      intro ha
      rcases hloc with e2 | ⟨g2, e2, h2⟩
      · rw [e2] at hk
        exact hag g ha hk.symm
      · rw [e2] at hk; injection hk with hk; subst hk
        have := (hx.all.lt g2 ha).2
        omega
    · rw [putG_other _ _ _ _ e] at hk
      intro ha
      rcases hx.oa with e2 | ⟨g2, e2, h2, _⟩
      · exact hP.n3 k g hk (by rw [← e2]; exact ha)
      · rw [e2] at ha; injection ha with ha; subst ha
        have := hml k g2 hk
        omega
  · intro k j g hk hj
    by_cases e : k = bkt s
    · by_cases e2 : j = bkt s
      · rw [e, e2]
      · subst e
        rw [putG_same] at hk
        rw [putG_other _ _ _ _ e2] at hj
        rcases hloc with e3 | ⟨g2, e3, h3⟩
        · rw [e3] at hk; exact hP.n4 _ _ g hk hj
        · rw [e3] at hk; injection hk with hk; subst hk
          have := hml j g2 hj
          omega
    · rw [putG_other _ _ _ _ e] at hk
      by_cases e2 : j = bkt s
      · subst e2
        rw [putG_same] at hj
        rcases hloc with e3 | ⟨g2, e3, h3⟩
        · rw [e3] at hj; exact hP.n4 _ _ g hk hj
        · rw [e3] at hj; injection hj with hj; subst hj
          have := hml k g2 hk
          omega
      · rw [putG_other _ _ _ _ e2] at hj
        exact hP.n4 _ _ g hk hj
  · intro m e; injection e with e; injection e with e; subst e; exact hnm
  · have hk0 : Kept (blkS pb va vm G) (fun b => blkS pb va vm G b ∨ w.heap.size ≤ b) w X := ⟨hx.kept.os, hx.kept.tape, hx.kept.output, hx.kept.size, hx.kept.same, fun b hb => hb⟩
    have hk1 := (hk0.trans (kept_grown _ hgr (fun k hk => .inl (.inl (.inr (.inr (.inr ⟨_, hk⟩))))))).trans (kept_grown _ hgr8 (fun k hk => by
      injection hk with hk
      subst hk
      rcases hom with e | e
      · exact .inl (.inl (.inr (.inr (.inl e))))
      · exact .inl (.inr e)))
    refine ⟨hk1.os, hk1.tape, hk1.output, hk1.size, hk1.same, ?_⟩
    rintro b (rfl | hb | hb | ⟨k, hb⟩)
    · exact .inl (.inl rfl)
    · rcases hx.oa with e2 | ⟨g2, e2, h2, _⟩
      · exact .inl (.inr (.inl (by rw [← e2]; exact hb)))
      · rw [e2] at hb; injection hb with hb; subst hb; exact .inr h2
    · injection hb with hb; injection hb with hb; subst hb
      rcases hom with e | e
      · exact .inl (.inr (.inr (.inl e)))
      · exact .inr e
    · by_cases e : k = bkt s
      · subst e
        rw [putG_same] at hb
        rcases hloc with e3 | ⟨g2, e3, h3⟩
        · exact .inl (.inr (.inr (.inr ⟨_, by rw [← e3]; exact hb⟩)))
        · rw [e3] at hb; injection hb with hb; subst hb; exact .inr (by omega)
      · rw [putG_other _ _ _ _ e] at hb
        exact .inl (.inr (.inr (.inr ⟨k, hb⟩)))
  · rintro (hb | hb | hb | ⟨k, hb⟩)
    · omega
    · rcases hx.oa with e2 | ⟨g2, e2, h2, h3, _⟩
      · have := hal rb (by rw [← e2]; exact hb); omega
      · rw [e2] at hb; injection hb with hb; exact h3 hb
    · injection hb with hb; injection hb with hb; exact hrm hb.symm
    · by_cases e : k = bkt s
      · subst e
        rw [putG_same] at hb
        rcases hloc with e3 | ⟨g2, e3, h3⟩
        · have := hml _ rb (by rw [← e3]; exact hb); omega
        · rw [e3] at hb; injection hb with hb; omega
      · rw [putG_other _ _ _ _ e] at hb
        have := hml k rb hb; omega
end Go.Proofs.Ytleicghfcffblaa
