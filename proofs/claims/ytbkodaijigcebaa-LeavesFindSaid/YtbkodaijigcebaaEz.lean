/- An entry, and a slice of entries, as arguments, opened. -/
import Derived.Test.YtbkodaijigcebaaME
import Derived.Lib.SmallJoins
import Derived.Deep.SlicePairs
import Derived.Carry
import Derived.OpenShut
namespace Go.Proofs.Ytbkodaijigcebaa
open Go.ChangeShapes Go.WideShapes Go.ChangeAt Go.RowKit Go.Joins Go.Deep
set_option linter.unusedVariables false
set_option maxRecDepth 100000
theorem lLaid : laidOutB Try.prog = true := by kernel_rfl
theorem cells_ent : Try.prog.cellsOf 58 = 4 := by kernel_rfl
set_option maxRecDepth 100000 in
theorem ent_trod {H : Type} {enc : TypeId × Value → H} {W : World} {base n : Nat} {spare : Nat → Bool} {held : Bool} {cs : List Value} {z : DataW H × List MemPlace}
    (h : DataW.trod enc Try.prog W base spare held n 58 cs = some z) : ∃ e : En, cs = [.int .u64 e.id, .int .u64 e.off, .int .u32 e.ln, .int .u32 e.rn] ∧ MayN e := by
  have cu : Try.prog.cellsOf 47 = 1 := by kernel_rfl
  have cw : Try.prog.cellsOf 50 = 1 := by kernel_rfl
  obtain ⟨xs, k, _, _, hl, hxl, hfs⟩ := DataW.trod_struct Try.underlying58 h
  rw [cells_ent] at hl
  match cs, hl, xs, hxl, hfs with
  | [x0, x1, x2, x3], _, [y0, y1, y2, y3], _, hfs =>
    have g0 := hfs 0 _ rfl
    have g1 := hfs 1 _ rfl
    have g2 := hfs 2 _ rfl
    have g3 := hfs 3 _ rfl
    simp [cu, cw] at g0 g1 g2 g3
    obtain ⟨a, e0, _, w0⟩ := DataW.trod_int Try.underlying47 g0
    obtain ⟨b, e1, _, w1⟩ := DataW.trod_int Try.underlying47 g1
    obtain ⟨c, e2, _, w2⟩ := DataW.trod_int Try.underlying50 g2
    obtain ⟨d, e3, _, w3⟩ := DataW.trod_int Try.underlying50 g3
    simp at e0 e1 e2 e3
    subst e0 e1 e2 e3
    exact ⟨⟨a, b, c, d⟩, rfl, bounds_u64 w0, bounds_u64 w1, bounds_u32 w2, bounds_u32 w3⟩
theorem ent_opened {H : Type} {enc : TypeId × Value → H} {W : World} {base b0 : Nat} {r : Reach} {spare : Nat → Bool} {held : Bool} {v : Value} {d : DataW H} {p : List MemPlace}
    (hv : Value.okWide Try.prog W r b0 58 v) (h : DataW.Trod enc Try.prog W base spare held 58 v d p) :
    ∃ e : En, v = .agg (eC e) ∧ MayN e := by
  obtain ⟨cs, rfl, hsz⟩ := okWide_struct Try.underlying58 hv
  obtain ⟨fuel, hf⟩ := h
  obtain ⟨e, he, hm⟩ := ent_trod hf
  refine ⟨e, ?_, hm⟩
  obtain ⟨l⟩ := cs
  have he' : l = [.int .u64 e.id, .int .u64 e.off, .int .u32 e.ln, .int .u32 e.rn] := he
  rw [he']
  rfl
set_option maxRecDepth 100000 in
theorem ents_opened {H : Type} {enc : TypeId × Value → H} {W : World} {base b0 : Nat} {r : Reach} {spare : Nat → Bool} {held : Bool} {v : Value} {d : DataW H} {p : List MemPlace}
    (hv : Value.okWide Try.prog W r b0 22 v) (h : DataW.Trod enc Try.prog W base spare held 22 v d p) :
    ∃ l, EnsAt W v l ∧ MaysN l ∧ (l = [] ∨ ∃ es rest, d = .slice es rest ∧ es.length = l.length) := by
  obtain ⟨a, len, cap, rfl⟩ := okWide_slice Try.underlying22 hv
  obtain ⟨fuel, hf⟩ := h
  rcases open_slice Try.underlying22 hf with ⟨hcs, _⟩ | ⟨x, l, c, m, n, D, Pl, hcs, _, hl, hm, hmm, hxe, hx⟩
  · simp [Value.cells] at hcs
    obtain ⟨rfl, rfl, rfl⟩ := hcs
    exact ⟨[], ens_nil _, fun e he => by simp at he, .inl rfl⟩
  · simp [Value.cells] at hcs
    obtain ⟨rfl, rfl, rfl⟩ := hcs
    have hlm : len ≤ m := by rw [hmm]; split <;> omega
    have hint : ∀ i, i < len → ∃ e : En, (W.cell? (x.add (i * 4)) = some (.int .u64 e.id) ∧ W.cell? (x.add (i * 4 + 1)) = some (.int .u64 e.off) ∧ W.cell? (x.add (i * 4 + 2)) = some (.int .u32 e.ln) ∧ W.cell? (x.add (i * 4 + 3)) = some (.int .u32 e.rn)) ∧ MayN e := by
      intro i hi
      obtain ⟨cs', q1, q2⟩ := hx i (by omega)
      rw [cells_ent] at q1
      obtain ⟨_, hlen, hcell⟩ := World.cells?_some q1
      obtain ⟨e, rfl, hme⟩ := ent_trod q2
      have e0 := hcell 0 (by simp)
      have e1 := hcell 1 (by simp)
      have e2 := hcell 2 (by simp)
      have e3 := hcell 3 (by simp)
      rw [add_add] at e0 e1 e2 e3
      exact ⟨e, ⟨by simpa using e0, by simpa using e1, by simpa using e2, by simpa using e3⟩, hme⟩
    have hspot : 0 < len → x.spot = none := by
      intro h0
      obtain ⟨_, ⟨q, _⟩, _⟩ := hint 0 h0
      have : x.add (0 * 4) = x := by simp [Addr.add]
      rw [this] at q
      unfold World.cell? at q
      split at q
      · split at q
        · cases q
        · rename_i hs
          cases hx : x.spot with
          | none => rfl
          | some k => rw [hx] at hs; simp at hs
      · cases q
    obtain ⟨q, hq⟩ := @choose_lt En ⟨zeroE⟩ len (fun i e => (W.cell? (x.add (i * 4)) = some (.int .u64 e.id) ∧ W.cell? (x.add (i * 4 + 1)) = some (.int .u64 e.off) ∧ W.cell? (x.add (i * 4 + 2)) = some (.int .u32 e.ln) ∧ W.cell? (x.add (i * 4 + 3)) = some (.int .u32 e.rn)) ∧ MayN e) hint
    let L := (List.range len).map q
    have hlen : L.length = len := by simp [L]
    have hat : ∀ k t, L[k]? = some t → k < len ∧ t = q k := by
      intro k t ht
      have hk : k < L.length := (List.getElem?_eq_some_iff.1 ht).1
      rw [hlen] at hk
      refine ⟨hk, ?_⟩
      simp only [L, List.getElem?_map, List.getElem?_range hk, Option.map_some, Option.some.injEq] at ht
      exact ht.symm
    refine ⟨L, ⟨some x, cap, by rw [hlen], by omega, hm, fun k t ht => ?_⟩, fun t ht => ?_, .inr ⟨_, _, (Prod.mk.inj hxe).1, by rw [hlen]; simp⟩⟩
    · obtain ⟨hk, rfl⟩ := hat k t ht
      obtain ⟨⟨q0, q1, q2, q3⟩, _⟩ := hq k hk
      have hsp := hspot (by omega)
      obtain ⟨g, off, sp⟩ := x
      simp only at hsp
      subst hsp
      have ad : ∀ j, (⟨g, off, none⟩ : Addr).add j = ⟨g, off + j, none⟩ := fun j => by simp [Addr.add]
      rw [ad] at q0 q1 q2 q3
      exact ⟨g, off, rfl, ecell_lt q0, q0, by rw [Nat.add_assoc]; exact q1, by rw [Nat.add_assoc]; exact q2, by rw [Nat.add_assoc]; exact q3⟩
    · obtain ⟨k, hk, hkt⟩ := List.getElem_of_mem ht
      obtain ⟨hk2, rfl⟩ := hat k t (by rw [List.getElem?_eq_getElem hk, hkt])
      exact (hq k hk2).2
end Go.Proofs.Ytbkodaijigcebaa
