/- An array of three ints as an argument: opened, and shut again. -/
import Derived.Test.YtojfmlckjcehjaaDoorL
import Derived.Laws.IdiomArrays
namespace Go.Proofs.YtojfmlckjcehjaaDoor
open Go.ChangeShapes Go.WideShapes Go.ChangeAt Go.RowKit
set_option linter.unusedVariables false
theorem open_three {H : Type} {enc : TypeId × Value → H} {W : World} {base b0 : Nat} {r : Reach} {spare : Nat → Bool} {held : Bool} {v : Value} {d : DataW H} {p : List MemPlace}
    (hv : Value.okWide Tryd.prog W r b0 38 v) (h : DataW.Trod enc Tryd.prog W base spare held 38 v d p) :
    ∃ a b c : Int, v = .agg #[.int .i64 a, .int .i64 b, .int .i64 c] ∧ d = .agg [.lit (.int .i64 a), .lit (.int .i64 b), .lit (.int .i64 c)] ∧ p = [] ∧ (Lit.int .i64 a).wf = true ∧ (Lit.int .i64 b).wf = true ∧ (Lit.int .i64 c).wf = true := by
  have c38 : Tryd.prog.cellsOf 38 = 3 := by kernel_rfl
  have c3 : Tryd.prog.cellsOf 3 = 1 := by kernel_rfl
  simp only [Value.okWide, Tryd.underlying38] at hv
  obtain ⟨cs, rfl, hsz, _⟩ := hv
  rw [c38] at hsz
  obtain ⟨fuel, hf⟩ := h
  obtain ⟨l⟩ := cs
  match l, hsz with
  | [c0, c1, c2], _ =>
    obtain ⟨y0, y1, y2, n, hx, h0, h1, h2⟩ := trod_array3 Tryd.underlying38 c3 hf
    obtain ⟨n0, e0, f0, w0⟩ := DataW.trod_int Tryd.underlying3 h0
    obtain ⟨n1, e1, f1, w1⟩ := DataW.trod_int Tryd.underlying3 h1
    obtain ⟨n2, e2, f2, w2⟩ := DataW.trod_int Tryd.underlying3 h2
    simp at e0 e1 e2
    subst e0; subst e1; subst e2
    subst f0; subst f1; subst f2
    simp only [Prod.mk.injEq] at hx
    exact ⟨n0, n1, n2, rfl, hx.1, hx.2, w0, w1, w2⟩
theorem shut_three {H : Type} {enc : TypeId × Value → H} {W : World} {base : Nat} {spare : Nat → Bool} {held : Bool} {a b c : Int} (w0 : (Lit.int .i64 a).wf = true) (w1 : (Lit.int .i64 b).wf = true) (w2 : (Lit.int .i64 c).wf = true) :
    DataW.Trod enc Tryd.prog W base spare held 38 (.agg #[.int .i64 a, .int .i64 b, .int .i64 c]) (.agg [.lit (.int .i64 a), .lit (.int .i64 b), .lit (.int .i64 c)]) [] := by
  have c38 : Tryd.prog.cellsOf 38 = 3 := by kernel_rfl
  have c3 : Tryd.prog.cellsOf 3 = 1 := by kernel_rfl
  have r3 : List.range 3 = [0, 1, 2] := rfl
  exact ⟨2, by simp [DataW.trod, Value.cells, Tryd.underlying38, Tryd.underlying3, c38, c3, r3, w0, w1, w2]⟩
end Go.Proofs.YtojfmlckjcehjaaDoor
