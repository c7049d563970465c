/- Arrays of four as arguments, opened. -/
import Derived.Test.YtkhlkjhfgfjadaaYk
import Derived.Test.YtkhlkjhfgfjadaaMZ
import Derived.Laws.IdiomArrays
namespace Go.Proofs.Ytkhlkjhfgfjadaa
open Go.ChangeShapes Go.WideShapes Go.ChangeAt Go.RowKit Go.Joins
set_option maxRecDepth 20000
set_option linter.unusedVariables false
theorem trod_array4p {H : Type} {enc : TypeId × Value → H} {P : Program} {w : World} {base : Nat} {spare : Nat → Bool} {held : Bool} {t e : TypeId} {fuel : Nat} {c0 c1 c2 c3 c4 c5 c6 c7 : Value} {x : DataW H × List MemPlace} (ht : P.underlying t = some (.array 4 e)) (hce : P.cellsOf e = 2)
    (h : DataW.trod enc P w base spare held fuel t [c0, c1, c2, c3, c4, c5, c6, c7] = some x) :
    ∃ y0 y1 y2 y3 n, DataW.trod enc P w base spare held n e [c0, c1] = some y0 ∧ DataW.trod enc P w base spare held n e [c2, c3] = some y1 ∧ DataW.trod enc P w base spare held n e [c4, c5] = some y2 ∧ DataW.trod enc P w base spare held n e [c6, c7] = some y3 := by
  cases fuel with
  | zero => simp [DataW.trod] at h
  | succ n =>
    unfold DataW.trod at h
    rw [ht] at h
    have r4 : List.range 4 = [0, 1, 2, 3] := rfl
    simp [r4, hce] at h
    obtain ⟨_, h⟩ := h
    cases h0 : DataW.trod enc P w base spare held n e [c0, c1] with
    | none => simp [h0] at h
    | some y0 =>
      cases h1 : DataW.trod enc P w base spare held n e [c2, c3] with
      | none => simp [h0, h1] at h
      | some y1 =>
        cases h2 : DataW.trod enc P w base spare held n e [c4, c5] with
        | none => simp [h0, h1, h2] at h
        | some y2 =>
          cases h3 : DataW.trod enc P w base spare held n e [c6, c7] with
          | none => simp [h0, h1, h2, h3] at h
          | some y3 => exact ⟨y0, y1, y2, y3, n, h0, h1, h2, h3⟩
theorem nums4_opened {H : Type} {enc : TypeId × Value → H} {W : World} {base b0 : Nat} {r : Reach} {spare : Nat → Bool} {held : Bool} {v : Value} {d : DataW H} {p : List MemPlace}
    (hv : Value.okWide Try.prog W r b0 23 v) (h : DataW.Trod enc Try.prog W base spare held 23 v d p) :
    ∃ a b c e : Int, v = .agg #[.int .u64 a, .int .u64 b, .int .u64 c, .int .u64 e] ∧ U64 a ∧ U64 b ∧ U64 c ∧ U64 e := by
  have c4 : Try.prog.cellsOf 23 = 4 := by kernel_rfl
  have c1 : Try.prog.cellsOf 22 = 1 := by kernel_rfl
  simp only [Value.okWide, Try.underlying23] at hv
  obtain ⟨cs, rfl, hsz, _⟩ := hv
  rw [c4] at hsz
  obtain ⟨fuel, hf⟩ := h
  obtain ⟨l⟩ := cs
  match l, hsz with
  | [x0, x1, x2, x3], _ =>
    obtain ⟨y0, y1, y2, y3, n, hx, h0, h1, h2, h3⟩ := trod_array4 Try.underlying23 c1 hf
    obtain ⟨n0, e0, f0, w0⟩ := DataW.trod_int Try.underlying22 h0
    obtain ⟨n1, e1, f1, w1⟩ := DataW.trod_int Try.underlying22 h1
    obtain ⟨n2, e2, f2, w2⟩ := DataW.trod_int Try.underlying22 h2
    obtain ⟨n3, e3, f3, w3⟩ := DataW.trod_int Try.underlying22 h3
    simp at e0 e1 e2 e3
    subst e0; subst e1; subst e2; subst e3
    exact ⟨n0, n1, n2, n3, rfl, bounds_u64 w0, bounds_u64 w1, bounds_u64 w2, bounds_u64 w3⟩
theorem parts_opened {H : Type} {enc : TypeId × Value → H} {W : World} {base b0 : Nat} {r : Reach} {spare : Nat → Bool} {held : Bool} {v : Value} {d : DataW H} {p : List MemPlace}
    (hv : Value.okWide Try.prog W r b0 44 v) (h : DataW.Trod enc Try.prog W base spare held 44 v d p) :
    ∃ x : Pt, v = .agg (pArr x) ∧ Few x maxLen := by
  have c4 : Try.prog.cellsOf 44 = 4 := by kernel_rfl
  have c1 : Try.prog.cellsOf 9 = 1 := by kernel_rfl
  simp only [Value.okWide, Try.underlying44] at hv
  obtain ⟨cs, rfl, hsz, _⟩ := hv
  rw [c4] at hsz
  obtain ⟨fuel, hf⟩ := h
  obtain ⟨l⟩ := cs
  match l, hsz with
  | [x0, x1, x2, x3], _ =>
    obtain ⟨y0, y1, y2, y3, n, hx, h0, h1, h2, h3⟩ := trod_array4 Try.underlying44 c1 hf
    obtain ⟨n0, e0, f0, w0⟩ := DataW.trod_string Try.underlying9 h0
    obtain ⟨n1, e1, f1, w1⟩ := DataW.trod_string Try.underlying9 h1
    obtain ⟨n2, e2, f2, w2⟩ := DataW.trod_string Try.underlying9 h2
    obtain ⟨n3, e3, f3, w3⟩ := DataW.trod_string Try.underlying9 h3
    simp at e0 e1 e2 e3
    subst e0; subst e1; subst e2; subst e3
    exact ⟨⟨n0, n1, n2, n3⟩, rfl, w0, w1, w2, w3⟩
theorem secs4_opened {H : Type} {enc : TypeId × Value → H} {W : World} {base b0 : Nat} {r : Reach} {spare : Nat → Bool} {held : Bool} {v : Value} {d : DataW H} {p : List MemPlace}
    (hv : Value.okWide Try.prog W r b0 28 v) (h : DataW.Trod enc Try.prog W base spare held 28 v d p) :
    ∃ x : Sc, v = .agg (sArr x) ∧ MayS x := by
  have c8 : Try.prog.cellsOf 28 = 8 := by kernel_rfl
  simp only [Value.okWide, Try.underlying28] at hv
  obtain ⟨cs, rfl, hsz, _⟩ := hv
  rw [c8] at hsz
  obtain ⟨fuel, hf⟩ := h
  obtain ⟨l⟩ := cs
  match l, hsz with
  | [x0, x1, x2, x3, x4, x5, x6, x7], _ =>
    obtain ⟨y0, y1, y2, y3, n, h0, h1, h2, h3⟩ := trod_array4p Try.underlying28 cells_sec hf
    obtain ⟨n0, n1, rfl, rfl, b0, b1⟩ := sec_trod h0
    obtain ⟨n2, n3, rfl, rfl, b2, b3⟩ := sec_trod h1
    obtain ⟨n4, n5, rfl, rfl, b4, b5⟩ := sec_trod h2
    obtain ⟨n6, n7, rfl, rfl, b6, b7⟩ := sec_trod h3
    exact ⟨⟨n0, n1, n2, n3, n4, n5, n6, n7⟩, rfl, b0, b1, b2, b3, b4, b5, b6, b7⟩
end Go.Proofs.Ytkhlkjhfgfjadaa
