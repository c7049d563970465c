/- A rectangle (a struct of five ints), a tile (of three) and a slice of intervals, as arguments, opened. -/
import Derived.Test.YthlekifagidijaaDoorL
import Derived.Test.YthlekifagidijaaDoorRu
import Derived.Lib.SmallJoins
import Derived.Deep.SlicePairs
import Derived.Carry
namespace Go.Proofs.YthlekifagidijaaDoor
open Go.ChangeShapes Go.WideShapes Go.ChangeAt Go.RowKit Go.Joins Go.Deep
set_option linter.unusedVariables false
theorem lLaid : laidOutB Tryd.prog = true := by kernel_rfl
theorem cells_tile : Tryd.prog.cellsOf 25 = 3 := by kernel_rfl
theorem cells_rect : Tryd.prog.cellsOf 23 = 5 := by kernel_rfl
theorem cells_span : Tryd.prog.cellsOf 69 = 2 := by kernel_rfl
theorem cells_u64 : Tryd.prog.cellsOf 44 = 1 := by kernel_rfl
set_option maxRecDepth 20000 in
theorem open_tile {H : Type} {enc : TypeId × Value → H} {W : World} {base b0 : Nat} {r : Reach} {spare : Nat → Bool} {held : Bool} {v : Value} {d : DataW H} {p : List MemPlace}
    (hv : Value.okWide Tryd.prog W r b0 25 v) (h : DataW.Trod enc Tryd.prog W base spare held 25 v d p) :
    ∃ a b c : Int, v = .agg #[.int .i64 a, .int .i64 b, .int .i64 c] := by
  obtain ⟨c0, c1, c2, y0, y1, y2, m, rfl, rfl, rfl, hy0, hy1, hy2⟩ := open_agg3 Tryd.underlying25 (by kernel_rfl) cells_tile hv h
  obtain ⟨a, e0, _, wa⟩ := DataW.trod_int Tryd.underlying3 hy0
  obtain ⟨b, e1, _, wb⟩ := DataW.trod_int Tryd.underlying3 hy1
  obtain ⟨c, e2, _, wc⟩ := DataW.trod_int Tryd.underlying3 hy2
  simp at e0 e1 e2
  subst e0 e1 e2
  exact ⟨a, b, c, rfl⟩
set_option maxRecDepth 20000 in
theorem open_rect {H : Type} {enc : TypeId × Value → H} {W : World} {base b0 : Nat} {r : Reach} {spare : Nat → Bool} {held : Bool} {v : Value} {d : DataW H} {p : List MemPlace}
    (hv : Value.okWide Tryd.prog W r b0 23 v) (h : DataW.Trod enc Tryd.prog W base spare held 23 v d p) :
    ∃ a b c e f : Int, v = .agg #[.int .i64 a, .int .i64 b, .int .i64 c, .int .i64 e, .int .i64 f] := by
  obtain ⟨cs, rfl, hsz⟩ := okWide_struct Tryd.underlying23 hv
  rw [cells_rect] at hsz
  obtain ⟨fuel, hf⟩ := h
  obtain ⟨xs, n, _, _, _, hxl, hfs⟩ := DataW.trod_struct Tryd.underlying23 hf
  obtain ⟨l⟩ := cs
  have ci : Tryd.prog.cellsOf 3 = 1 := by kernel_rfl
  match l, hsz, xs, hxl, hfs with
  | [c0, c1, c2, c3, c4], _, [y0, y1, y2, y3, y4], _, hfs =>
    have g0 := hfs 0 _ rfl
    have g1 := hfs 1 _ rfl
    have g2 := hfs 2 _ rfl
    have g3 := hfs 3 _ rfl
    have g4 := hfs 4 _ rfl
    simp [Value.cells, ci] at g0 g1 g2 g3 g4
    obtain ⟨a, e0, _, _⟩ := DataW.trod_int Tryd.underlying3 g0
    obtain ⟨b, e1, _, _⟩ := DataW.trod_int Tryd.underlying3 g1
    obtain ⟨c, e2, _, _⟩ := DataW.trod_int Tryd.underlying3 g2
    obtain ⟨e, e3, _, _⟩ := DataW.trod_int Tryd.underlying3 g3
    obtain ⟨f, e4, _, _⟩ := DataW.trod_int Tryd.underlying3 g4
    simp at e0 e1 e2 e3 e4
    subst e0 e1 e2 e3 e4
    exact ⟨a, b, c, e, f, rfl⟩
set_option maxRecDepth 20000 in
theorem open_spans {H : Type} {enc : TypeId × Value → H} {W : World} {base b0 : Nat} {r : Reach} {spare : Nat → Bool} {held : Bool} {v : Value} {d : DataW H} {p : List MemPlace}
    (hv : Value.okWide Tryd.prog W r b0 38 v) (h : DataW.Trod enc Tryd.prog W base spare held 38 v d p) :
    ∃ l, SpansAt W v l ∧ WideS l := by
  obtain ⟨a, len, cap, rfl⟩ := okWide_slice Tryd.underlying38 hv
  obtain ⟨fuel, hf⟩ := h
  rcases open_slice_pairs Tryd.underlying38 Tryd.underlying69 cells_span rfl rfl cells_u64 cells_u64 hf with ⟨hcs, _⟩ | ⟨x, l, c, m, n, V0, V1, D0, D1, P0, P1, hcs, _, hl, hm, hmm, _, hcell⟩
  · simp [Value.cells] at hcs
    obtain ⟨rfl, rfl, rfl⟩ := hcs
    exact ⟨[], spans_nil _, wide_nil⟩
  · simp [Value.cells] at hcs
    obtain ⟨rfl, rfl, rfl⟩ := hcs
    have hlm : len ≤ m := by rw [hmm]; split <;> omega
    have hint : ∀ i, i < len → ∃ A B : Int, V0 i = .int .u64 A ∧ V1 i = .int .u64 B ∧ 0 ≤ A ∧ A ≤ 18446744073709551615 ∧ 0 ≤ B ∧ B ≤ 18446744073709551615 ∧ W.cell? (x.add (i * 2)) = some (.int .u64 A) ∧ W.cell? (x.add (i * 2 + 1)) = some (.int .u64 B) := by
      intro i hi
      obtain ⟨k0, k1, k2, k3⟩ := hcell i (by omega)
      obtain ⟨A, e0, _, wa⟩ := DataW.trod_int Tryd.underlying44 k2
      obtain ⟨B, e1, _, wb⟩ := DataW.trod_int Tryd.underlying44 k3
      simp at e0 e1
      rw [e0] at k0
      rw [e1] at k1
      have ba := bounds_u64 wa
      have bb := bounds_u64 wb
      exact ⟨A, B, e0, e1, ba.1, ba.2, bb.1, bb.2, k0, k1⟩
    have hspot : 0 < len → x.spot = none := by
      intro h0
      obtain ⟨_, _, _, _, _, _, _, _, q, _⟩ := hint 0 h0
      have : x.add (0 * 2) = x := by simp [Addr.add]
      rw [this] at q
      unfold World.cell? at q
      split at q
      · split at q
        · cases q
        · rename_i hs
          cases hx : x.spot with
          | none => rfl
          | some k => rw [hx] at hs; simp at hs
      · cases q
    let L := (List.range len).map (fun i => (intOf (V0 i), intOf (V1 i)))
    have hlen : L.length = len := by simp [L]
    have hat : ∀ k t, L[k]? = some t → k < len ∧ t = (intOf (V0 k), intOf (V1 k)) := by
      intro k t ht
      have hk : k < L.length := (List.getElem?_eq_some_iff.1 ht).1
      rw [hlen] at hk
      refine ⟨hk, ?_⟩
      simp only [L, List.getElem?_map, List.getElem?_range hk, Option.map_some, Option.some.injEq] at ht
      exact ht.symm
    refine ⟨L, ⟨some x, cap, by rw [hlen], by omega, hm, fun k t ht => ?_⟩, fun t ht => ?_⟩
    · obtain ⟨hk, rfl⟩ := hat k t ht
      obtain ⟨A, B, e0, e1, _, _, _, _, q0, q1⟩ := hint k hk
      have hsp := hspot (by omega)
      obtain ⟨g, off, sp⟩ := x
      simp only at hsp
      subst hsp
      have a0 : (⟨g, off, none⟩ : Addr).add (k * 2) = ⟨g, off + k * 2, none⟩ := by unfold Addr.add; split <;> simp_all
      have a1 : (⟨g, off, none⟩ : Addr).add (k * 2 + 1) = ⟨g, off + k * 2 + 1, none⟩ := by simp [Addr.add, Nat.add_assoc]
      rw [a0] at q0
      rw [a1] at q1
      rw [e0, e1]
      exact ⟨g, off, rfl, scell_lt q0, q0, q1⟩
    · obtain ⟨k, hk, hkt⟩ := List.getElem_of_mem ht
      obtain ⟨hk2, rfl⟩ := hat k t (by rw [List.getElem?_eq_getElem hk, hkt])
      obtain ⟨A, B, e0, e1, b0, b1, b2, b3, _, _⟩ := hint k hk2
      rw [e0, e1]
      exact ⟨b0, b1, b2, b3⟩
end Go.Proofs.YthlekifagidijaaDoor
