/- What a call that keeps intervals in a boxed list leaves as it was (St, Fr), and the contract of the program's function that keeps. -/
import Derived.Test.YthlekifagidijaaDoorPj
import Derived.Test.YthlekifagidijaaDoorPq
import Derived.Test.YthlekifagidijaaDoorDn
import Derived.RangeFuncBox
namespace Go.Proofs.YthlekifagidijaaDoor
open Go.RowKit
set_option linter.unusedVariables false
set_option linter.unusedSimpArgs false
theorem QTab.low {B : Nat} {W W' : World} (h : QTab W) (hb : Below B W W') (h0 : 0 < B) : QTab W' := by
  have hc : ∀ n r u s t, QCell W n r u s t → QCell W' n r u s t := fun n r u s t q => ⟨(hb.cell (p := ⟨0, 4 * n, none⟩) h0).trans q.1, (hb.cell (p := ⟨0, 4 * n + 1, none⟩) h0).trans q.2.1, (hb.cell (p := ⟨0, 4 * n + 2, none⟩) h0).trans q.2.2.1, (hb.cell (p := ⟨0, 4 * n + 3, none⟩) h0).trans q.2.2.2⟩
  exact ⟨Nat.lt_of_lt_of_le h.1 hb.size, hc _ _ _ _ _ h.2.1, hc _ _ _ _ _ h.2.2.1, hc _ _ _ _ _ h.2.2.2.1, hc _ _ _ _ _ h.2.2.2.2⟩
/-- The list in its box, and how many there may be. -/
structure St (w : World) (B bl bm m : Nat) (v : Value) (L : List (Int × Int)) : Prop where
  cell : w.cell? ⟨bl, 0, none⟩ = some v
  free : w.frozen? ⟨bl, 0, none⟩ = false
  most : w.cell? ⟨bm, 0, none⟩ = some (.int .i64 m)
  own : OwnS w B 54 v L
  lt : bl < w.heap.size
  lt2 : bm < w.heap.size
  ne : bl ≠ bm
  ob : v.ownBlock ≠ some bl
  om : v.ownBlock ≠ some bm
  lo : B ≤ bl
/-- What stays: all below B; and all but the list's box and its row. -/
structure Fr (B bl : Nat) (v : Value) (w : World) (v' : Value) (w' : World) : Prop where
  below : Below B w w'
  keep : ∀ k, k < w.heap.size → k ≠ bl → v.ownBlock ≠ some k → w'.heap[k]? = w.heap[k]?
  moved : Moved w v v'
theorem Fr.trans {B bl : Nat} {v v' v'' : Value} {w w' w'' : World} (h : Fr B bl v w v' w') (g : Fr B bl v' w' v'' w'') : Fr B bl v w v'' w'' := by
  have hs := h.below.size
  refine ⟨h.below.trans g.below, fun k hk h1 h2 => (g.keep k (Nat.lt_of_lt_of_le hk hs) h1 ?_).trans (h.keep k hk h1 h2), ?_⟩
  · rcases h.moved with e | ⟨x, e, hx⟩
    · rw [e]; exact h2
    · rw [e]; intro e2; injection e2 with e2; omega
  · rcases g.moved with e | ⟨x, e, hx⟩
    · unfold Moved; rw [e]; exact h.moved
    · exact .inr ⟨x, e, by omega⟩
theorem Fr.of_below {B bl : Nat} {v : Value} {w w' : World} (h : Below w.heap.size w w') (hB : B ≤ w.heap.size) : Fr B bl v w v w' :=
  ⟨h.mono hB, fun k hk _ _ => h.block k hk, .inl rfl⟩
theorem St.below {w w' : World} {B bl bm m : Nat} {v : Value} {L : List (Int × Int)} (h : St w B bl bm m v L) (hb : Below w.heap.size w w') : St w' B bl bm m v L :=
  ⟨(hb.cell (p := ⟨bl, 0, none⟩) h.lt).trans h.cell, (World.frozen?_of_block (a := ⟨bl, 0, none⟩) (hb.block bl h.lt)).trans h.free, (hb.cell (p := ⟨bm, 0, none⟩) h.lt2).trans h.most, h.own.below hb, Nat.lt_of_lt_of_le h.lt hb.size, Nat.lt_of_lt_of_le h.lt2 hb.size, h.ne, h.ob, h.om, h.lo⟩
/-- A block of one's own, apart from the list's. -/
structure Loc (w : World) (v : Value) (bl b : Nat) : Prop where
  lt : b < w.heap.size
  ne : b ≠ bl
  own : v.ownBlock ≠ some b
theorem Fr.loc {B bl b : Nat} {v v' : Value} {w w' : World} (h : Fr B bl v w v' w') (g : Loc w v bl b) : Loc w' v' bl b ∧ w'.heap[b]? = w.heap[b]? := by
  refine ⟨⟨Nat.lt_of_lt_of_le g.lt h.below.size, g.ne, ?_⟩, h.keep b g.lt g.ne g.own⟩
  rcases h.moved with e | ⟨x, e, hx⟩
  · rw [e]; exact g.own
  · rw [e]; intro e2; injection e2 with e2; have := g.lt; omega
theorem Fr.cell {B bl b j : Nat} {v v' x : Value} {w w' : World} (h : Fr B bl v w v' w') (g : Loc w v bl b) (hc : w.cell? ⟨b, j, none⟩ = some x) : w'.cell? ⟨b, j, none⟩ = some x :=
  (World.cell?_of_block (a := ⟨b, j, none⟩) (h.loc g).2).trans hc
theorem St.loc {w w' : World} {B bl bm m b : Nat} {v : Value} {L : List (Int × Int)} (h : St w B bl bm m v L) (hb : w.heap.size ≤ b) (hb2 : b < w'.heap.size) : Loc w' v bl b :=
  ⟨hb2, by have := h.lt; omega, fun e => by have := (h.own.lt b e).2; omega⟩
/-- Behind joined and the store into the box. -/
theorem st_kept {w w1 : World} {B bl bm m : Nat} {v v1 : Value} {L L1 : List (Int × Int)} {o : Obj} (h : St w B bl bm m v L) (hB : B ≤ w.heap.size) (hown : OwnS w1 B 54 v1 L1) (hg : (w.alloc o).grownBy w1 v.ownBlock) (hm : Moved (w.alloc o) v v1) :
    w1.cell? ⟨bl, 0, none⟩ = some v ∧ w1.frozen? ⟨bl, 0, none⟩ = false ∧ w1.cell? ⟨bm, 0, none⟩ = some (.int .i64 m) ∧ w1.cell? ⟨w.heap.size, 0, none⟩ = (w.alloc o).cell? ⟨w.heap.size, 0, none⟩ ∧ St (w1.setCell ⟨bl, 0, none⟩ v1) B bl bm m v1 L1 ∧ Fr B bl v w v1 (w1.setCell ⟨bl, 0, none⟩ v1) := by
  have hs := hg.size
  rw [World.size_alloc] at hs
  have ha := World.grownBy_alloc w o none
  have hlt := h.lt
  have hlt2 := h.lt2
  have k1 : ∀ k, k < w.heap.size → v.ownBlock ≠ some k → w1.heap[k]? = w.heap[k]? := fun k hk hne => (hg.block k (by rw [World.size_alloc]; omega) (fun e => hne e.symm)).trans (ha.block k hk (by simp))
  have c0 : w1.cell? ⟨bl, 0, none⟩ = some v := (World.cell?_of_block (a := ⟨bl, 0, none⟩) (k1 bl h.lt h.ob)).trans h.cell
  have c1 : w1.frozen? ⟨bl, 0, none⟩ = false := (World.frozen?_of_block (a := ⟨bl, 0, none⟩) (k1 bl h.lt h.ob)).trans h.free
  have c2 : w1.cell? ⟨bm, 0, none⟩ = some (.int .i64 m) := (World.cell?_of_block (a := ⟨bm, 0, none⟩) (k1 bm h.lt2 h.om)).trans h.most
  have c3 : w1.cell? ⟨w.heap.size, 0, none⟩ = (w.alloc o).cell? ⟨w.heap.size, 0, none⟩ := World.cell?_of_block (a := ⟨w.heap.size, 0, none⟩) (hg.block _ (by rw [World.size_alloc]; show w.heap.size < _; omega) (fun e => by have := (h.own.lt _ e.symm).2; simp at this))
  have o1 : ∀ b, b < w.heap.size → v.ownBlock ≠ some b → v1.ownBlock ≠ some b := fun b hb hne => by
    rcases hm with e | ⟨x, e, hx⟩
    · rw [e]; exact hne
    · rw [e]; intro e2; injection e2 with e2; rw [World.size_alloc] at hx; omega
  have hgs : w1.grownBy (w1.setCell ⟨bl, 0, none⟩ v1) (some bl) := grownBy_setCell' w1 bl v1
  refine ⟨c0, c1, c2, c3, ⟨?_, ?_, ?_, ?_, ?_, ?_, h.ne, o1 bl h.lt h.ob, o1 bm h.lt2 h.om, h.lo⟩, ⟨?_, ?_, ?_⟩⟩
  · exact World.cell?_setCell_same _ _ _ c0
  · rw [World.frozen?_setCell]; exact c1
  · exact (World.cell?_of_block (a := ⟨bm, 0, none⟩) (hgs.block bm (by omega) (fun e => h.ne (by injection e with e; exact e.symm)))).trans c2
  · exact World.ownsRow.kept hown hgs (.inr (o1 bl h.lt h.ob))
  · have := hgs.size; omega
  · have := hgs.size; omega
  · have hb1 : Below B w w1 := Below.grown ((Below.refl B w).alloc hB o) hg (by rw [World.size_alloc]; omega) (fun k e => (h.own.lt k e).1)
    exact hb1.setCell (p := ⟨bl, 0, none⟩) h.lo _
  · intro k hk hne hne2
    exact (hgs.block k (by omega) (fun e => hne (by injection e with e))).trans (k1 k hk hne2)
  · rcases hm with e | ⟨x, e, hx⟩
    · exact .inl e
    · exact .inr ⟨x, e, by rw [World.size_alloc] at hx; omega⟩
set_option maxHeartbeats 1000000 in
theorem keep_any (B bl bm m : Nat) (v : Value) (L : List (Int × Int)) (s : Int × Int) (w : World) (hs : St w B bl bm m v L) (hB : B ≤ w.heap.size) (hw : WideS L) (hw2 : 0 ≤ s.1 ∧ s.1 ≤ 18446744073709551615 ∧ 0 ≤ s.2 ∧ s.2 ≤ 18446744073709551615) (hl : L.length ≤ m) (hm : m ≤ 4096) :
    Calls Tryd.prog 33 #[.agg #[.int .u64 s.1, .int .u64 s.2], .pointer (some ⟨bl, 0, none⟩), .pointer (some ⟨bm, 0, none⟩)] w fun e w' => ∃ v', e = .returned (.bool (decide (m < (joinP L s).length))) ∧ St w' B bl bm m v' (joinP L s) ∧ Fr B bl v w v' w' := by
  have hj := joined_any B v L s (w.alloc (.cells #[.int .u64 s.1, .int .u64 s.2] 54)) (World.ownsRow.alloc hs.own _) hw hw2 (by omega) (by simp; omega)
  have hlen := (join_grows L s).2
  have c0 := hs.cell
  have hlt := hs.lt
  have hne : bl ≠ w.heap.size := by omega
  have HJ := Lib.hid hj
  have HS := Lib.hid hs
  obtain ⟨p, q⟩ := s
  dsimp only at HJ hw2
  clear hj hs
  go_enter Tryd.func33, Tryd.ntmps33
  go_wp2_with fail
  refine HJ.out.mono ?_
  rintro e w1 ⟨v1, rfl, h1, h2, h3⟩
  obtain ⟨c1, c2, c3, c4, hst, hfr⟩ := st_kept HS.out hB h1 h2 h3
  have HST := Lib.hid hst
  have HFR := Lib.hid hfr
  obtain ⟨a, cap, hv, hle, hmx, _⟩ := h1.spansAt
  have hmost := hst.most
  have hcell := hst.cell
  clear h1 h2 h3 hst hfr c0 c4 HJ
  subst hv
  go_wp2_with fail
  go_ret
  exact ⟨_, rfl, HST.out, HFR.out⟩
end Go.Proofs.YthlekifagidijaaDoor
