/- An item, a slice of items, as arguments, opened. -/
import Derived.Test.YtleicghfcffblaaLo
import Derived.Lib.SmallJoins
import Derived.Deep.SlicePairs
import Derived.Deep.Slices
import Derived.Carry
import Derived.OpenShut
namespace Go.Proofs.Ytleicghfcffblaa
open Go.ChangeShapes Go.WideShapes Go.ChangeAt Go.RowKit Go.Joins Go.Deep
set_option linter.unusedVariables false
set_option maxRecDepth 100000
theorem lLaid : laidOutB Try.prog = true := by kernel_rfl
theorem nat_of {a : Int} (h : 0 ≤ a) : ∃ n : Nat, a = (n : Int) := ⟨a.toNat, by omega⟩
theorem cells_it : Try.prog.cellsOf 67 = 2 := by kernel_rfl
theorem it_trod {H : Type} {enc : TypeId × Value → H} {W : World} {base n : Nat} {spare : Nat → Bool} {held : Bool} {cs : List Value} {z : DataW H × List MemPlace}
    (h : DataW.trod enc Try.prog W base spare held n 67 cs = some z) : ∃ e : It, cs = [.int .u64 e.1, .string e.2] ∧ e.1 < 18446744073709551616 ∧ e.2.size ≤ maxLen := by
  have cu : Try.prog.cellsOf 51 = 1 := by kernel_rfl
  have cw : Try.prog.cellsOf 9 = 1 := by kernel_rfl
  obtain ⟨xs, k, _, _, hl, hxl, hfs⟩ := DataW.trod_struct Try.underlying67 h
  rw [cells_it] at hl
  match cs, hl, xs, hxl, hfs with
  | [x0, x1], _, [y0, y1], _, hfs =>
    have g0 := hfs 0 _ rfl
    have g1 := hfs 1 _ rfl
    simp [cu, cw] at g0 g1
    obtain ⟨b0, e0, _, w0⟩ := DataW.trod_int Try.underlying51 g0
    obtain ⟨a0, rfl⟩ := nat_of (bounds_u64 w0).1
    obtain ⟨a1, e1, _, w1⟩ := DataW.trod_string Try.underlying9 g1
    simp at e0 e1
    subst e0 e1
    exact ⟨⟨a0, a1⟩, rfl, (by have := (bounds_u64 w0).2; show a0 < 18446744073709551616; omega), w1⟩
theorem its_opened {H : Type} {enc : TypeId × Value → H} {W : World} {base b0 : Nat} {r : Reach} {spare : Nat → Bool} {held : Bool} {v : Value} {d : DataW H} {p : List MemPlace}
    (hv : Value.okWide Try.prog W r b0 22 v) (h : DataW.Trod enc Try.prog W base spare held 22 v d p) :
    ∃ l, ItsAt W v l ∧ ∀ e ∈ l, e.1 < 18446744073709551616 ∧ e.2.size ≤ maxLen := by
  obtain ⟨a, len, cap, rfl⟩ := okWide_slice Try.underlying22 hv
  obtain ⟨fuel, hf⟩ := h
  rcases open_slice Try.underlying22 hf with ⟨hcs, _⟩ | ⟨x, l, c, m, n, D, Pl, hcs, _, hl, hm, hmm, hxe, hx⟩
  · simp [Value.cells] at hcs
    obtain ⟨rfl, rfl, rfl⟩ := hcs
    exact ⟨[], ⟨none, 0, rfl, Nat.le_refl _, by simp, fun k t h => by simp at h⟩, fun e he => by simp at he⟩
  · simp [Value.cells] at hcs
    obtain ⟨rfl, rfl, rfl⟩ := hcs
    have hlm : len ≤ m := by rw [hmm]; split <;> omega
    have hint : ∀ i, i < len → ∃ e : It, (W.cell? (x.add (i * 2)) = some (.int .u64 e.1) ∧ W.cell? (x.add (i * 2 + 1)) = some (.string e.2)) ∧ (e.1 < 18446744073709551616 ∧ e.2.size ≤ maxLen) := by
      intro i hi
      obtain ⟨cs', q1, q2⟩ := hx i (by omega)
      rw [cells_it] at q1
      obtain ⟨_, hlen, hcell⟩ := World.cells?_some q1
      obtain ⟨e, rfl, hme⟩ := it_trod q2
      have e0 := hcell 0 (by simp)
      have e1 := hcell 1 (by simp)
      rw [add_add] at e0 e1
      exact ⟨e, ⟨by simpa using e0, by simpa using e1⟩, hme⟩
    have hspot : 0 < len → x.spot = none := by
      intro h0
      obtain ⟨_, ⟨q, _⟩, _⟩ := hint 0 h0
      have : x.add (0 * 2) = x := by simp [Addr.add]
      rw [this] at q
      unfold World.cell? at q
      split at q
      · split at q
        · cases q
        · rename_i hs
          cases hx : x.spot with
          | none => rfl
          | some k => rw [hx] at hs; simp at hs
      · cases q
    obtain ⟨q, hq⟩ := @choose_lt It ⟨(0, { data := #[] })⟩ len (fun i e => (W.cell? (x.add (i * 2)) = some (.int .u64 e.1) ∧ W.cell? (x.add (i * 2 + 1)) = some (.string e.2)) ∧ (e.1 < 18446744073709551616 ∧ e.2.size ≤ maxLen)) hint
    let L := (List.range len).map q
    have hlen : L.length = len := by simp [L]
    have hat : ∀ k t, L[k]? = some t → k < len ∧ t = q k := by
      intro k t ht
      have hk : k < L.length := (List.getElem?_eq_some_iff.1 ht).1
      rw [hlen] at hk
      refine ⟨hk, ?_⟩
      simp only [L, List.getElem?_map, List.getElem?_range hk, Option.map_some, Option.some.injEq] at ht
      exact ht.symm
    refine ⟨L, ⟨some x, cap, by rw [hlen], by omega, hm, fun k t ht => ?_⟩, fun t ht => ?_⟩
    · obtain ⟨hk, rfl⟩ := hat k t ht
      obtain ⟨⟨q0, q1⟩, _⟩ := hq k hk
      have hsp := hspot (by omega)
      obtain ⟨g, off, sp⟩ := x
      simp only at hsp
      subst hsp
      have ad : ∀ j, (⟨g, off, none⟩ : Addr).add j = ⟨g, off + j, none⟩ := fun j => by simp [Addr.add]
      rw [ad] at q0 q1
      exact ⟨g, off, rfl, vcell_lt q0, q0, by rw [Nat.add_assoc]; exact q1⟩
    · obtain ⟨k, hk, hkt⟩ := List.getElem_of_mem ht
      obtain ⟨hk2, rfl⟩ := hat k t (by rw [List.getElem?_eq_getElem hk, hkt])
      exact (hq k hk2).2
theorem it_opened {H : Type} {enc : TypeId × Value → H} {W : World} {base b0 : Nat} {r : Reach} {spare : Nat → Bool} {held : Bool} {v : Value} {d : DataW H} {p : List MemPlace}
    (hv : Value.okWide Try.prog W r b0 67 v) (h : DataW.Trod enc Try.prog W base spare held 67 v d p) :
    ∃ e : It, v = .agg #[.int .u64 e.1, .string e.2] ∧ (e.1 < 18446744073709551616 ∧ e.2.size ≤ maxLen) := by
  obtain ⟨cs, rfl, hsz⟩ := okWide_struct Try.underlying67 hv
  obtain ⟨fuel, hf⟩ := h
  obtain ⟨e, he, hm⟩ := it_trod hf
  refine ⟨e, ?_, hm⟩
  obtain ⟨l⟩ := cs
  have he' : l = [.int .u64 e.1, .string e.2] := he
  rw [he']
end Go.Proofs.Ytleicghfcffblaa
