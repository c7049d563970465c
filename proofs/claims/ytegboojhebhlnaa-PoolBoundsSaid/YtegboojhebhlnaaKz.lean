/- A slice of texts, and a place, as arguments of a law: opened. -/
import Derived.Test.YtegboojhebhlnaaKb
import Derived.ChangeOld
import Derived.Carry
import Derived.OpenShut
import Derived.ChangeMaps5
import Derived.ShutString
import Derived.SizedLaws
import Derived.SliceStrings
import Derived.Lib.SmallJoins
namespace Go.Proofs.Ytegboojhebhlnaa
open Go.ChangeShapes Go.WideShapes Go.ChangeAt Go.RowKit Go.Joins
set_option linter.unusedVariables false
theorem lLaid : laidOutB Try.prog = true := by kernel_rfl
theorem cells_str : Try.prog.cellsOf 9 = 1 := by kernel_rfl
theorem strs_opened {H : Type} {enc : TypeId × Value → H} {W : World} {base b0 : Nat} {r : Reach} {spare : Nat → Bool} {held : Bool} {v : Value} {d : DataW H} {p : List MemPlace}
    (hv : Value.okWide Try.prog W r b0 22 v) (h : DataW.Trod enc Try.prog W base spare held 22 v d p) :
    ∃ l, StrsAt W v l ∧ ∀ t ∈ l, t.size ≤ maxLen := by
  obtain ⟨a, len, cap, rfl⟩ := okWide_slice Try.underlying22 hv
  obtain ⟨fuel, hf⟩ := h
  rcases open_strings Try.underlying22 Try.underlying9 cells_str hf with ⟨hcs, _⟩ | ⟨x, l, c, ss, hcs, _, hl, hm, hlen, _, hcell, hss⟩
  · simp [Value.cells] at hcs
    obtain ⟨rfl, rfl, rfl⟩ := hcs
    exact ⟨[], strsAt_nil _, fun t ht => by simp at ht⟩
  · simp [Value.cells] at hcs
    obtain ⟨rfl, rfl, rfl⟩ := hcs
    have hge : len ≤ ss.length := by rw [hlen]; split <;> omega
    have hspot : 0 < len → x.spot = none := by
      intro h0
      have q := hcell 0 (by omega)
      have hx0 : x.add 0 = x := by simp [Addr.add]
      rw [hx0] at q
      unfold World.cell? at q
      split at q
      · split at q
        · cases q
        · rename_i hs
          cases hx : x.spot with
          | none => rfl
          | some k => rw [hx] at hs; simp at hs
      · cases q
    refine ⟨ss.take len, ⟨some x, cap, ?_, ?_, hm, ?_⟩, fun t ht => hss t (List.mem_of_mem_take ht)⟩
    · rw [List.length_take, Nat.min_eq_left hge]
    · rw [List.length_take]; omega
    · intro k t ht
      have hk : k < len := by
        have := (List.getElem?_eq_some_iff.1 ht).1
        rw [List.length_take] at this
        omega
      rw [List.getElem?_take, if_pos hk] at ht
      have hc := hcell k (by omega)
      rw [List.getD_eq_getElem?_getD, ht, Option.getD_some] at hc
      have hsp : x.spot = none := hspot (by omega)
      obtain ⟨xb, xo, xs⟩ := x
      simp only at hsp
      subst hsp
      have hadd : (⟨xb, xo, none⟩ : Addr).add k = ⟨xb, xo + k, none⟩ := by simp [Addr.add]
      rw [hadd] at hc
      exact ⟨xb, xo, rfl, vcell_lt hc, hc⟩
theorem cells_rct : Try.prog.cellsOf 26 = 2 := by kernel_rfl
theorem cells_pct : Try.prog.cellsOf 31 = 2 := by kernel_rfl
theorem rct_opened {H : Type} {enc : TypeId × Value → H} {W : World} {base b0 : Nat} {r : Reach} {spare : Nat → Bool} {held : Bool} {v : Value} {d : DataW H} {p : List MemPlace}
    (hv : Value.okWide Try.prog W r b0 26 v) (h : DataW.Trod enc Try.prog W base spare held 26 v d p) :
    ∃ a b : Int, v = .agg #[.int .u64 a, .int .u32 b] ∧ (Lit.int .u64 a).wf = true ∧ (Lit.int .u32 b).wf = true := by
  obtain ⟨c0, c1, y0, y1, m, rfl, rfl, rfl, hy0, hy1⟩ := open_agg2 Try.underlying26 (by kernel_rfl) cells_rct hv h
  obtain ⟨a, e0, rfl, wa⟩ := DataW.trod_int Try.underlying23 hy0
  obtain ⟨b, e1, rfl, wb⟩ := DataW.trod_int Try.underlying24 hy1
  simp at e0 e1
  subst e0 e1
  exact ⟨a, b, rfl, wa, wb⟩
theorem pct_opened {H : Type} {enc : TypeId × Value → H} {W : World} {base b0 : Nat} {r : Reach} {spare : Nat → Bool} {held : Bool} {v : Value} {d : DataW H} {p : List MemPlace}
    (hv : Value.okWide Try.prog W r b0 31 v) (h : DataW.Trod enc Try.prog W base spare held 31 v d p) :
    ∃ a b : Int, v = .agg #[.int .u64 a, .int .u32 b] ∧ (Lit.int .u64 a).wf = true ∧ (Lit.int .u32 b).wf = true := by
  obtain ⟨c0, c1, y0, y1, m, rfl, rfl, rfl, hy0, hy1⟩ := open_agg2 Try.underlying31 (by kernel_rfl) cells_pct hv h
  obtain ⟨a, e0, rfl, wa⟩ := DataW.trod_int Try.underlying23 hy0
  obtain ⟨b, e1, rfl, wb⟩ := DataW.trod_int Try.underlying24 hy1
  simp at e0 e1
  subst e0 e1
  exact ⟨a, b, rfl, wa, wb⟩
end Go.Proofs.Ytegboojhebhlnaa
