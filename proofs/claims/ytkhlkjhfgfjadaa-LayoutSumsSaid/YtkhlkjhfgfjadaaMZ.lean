/- Several texts, one behind the other: Hz. -/
import Derived.Test.YtkhlkjhfgfjadaaRows
import Derived.Test.YtkhlkjhfgfjadaaMH
import Derived.Lib.SmallJoins
import Derived.Carry
import Derived.OpenShut
/- A header as an argument, opened. -/
namespace Go.Proofs.Ytkhlkjhfgfjadaa
open Go.ChangeShapes Go.WideShapes Go.ChangeAt Go.RowKit Go.Joins
set_option maxRecDepth 20000
set_option linter.unusedVariables false
theorem lLaid : laidOutB Try.prog = true := by kernel_rfl
theorem cells_head : Try.prog.cellsOf 27 = 24 := by kernel_rfl
theorem cells_sec : Try.prog.cellsOf 25 = 2 := by kernel_rfl
set_option maxRecDepth 20000 in
theorem sec_trod {H : Type} {enc : TypeId × Value → H} {W : World} {base n : Nat} {spare : Nat → Bool} {held : Bool} {x y : Value} {z : DataW H × List MemPlace}
    (h : DataW.trod enc Try.prog W base spare held n 25 [x, y] = some z) : ∃ a b : Int, x = .int .u64 a ∧ y = .int .u64 b ∧ U64 a ∧ U64 b := by
  have cu : Try.prog.cellsOf 22 = 1 := by kernel_rfl
  obtain ⟨y0, y1, m, _, _, g0, g1⟩ := trod_struct2 Try.underlying25 h
  simp [cu] at g0 g1
  obtain ⟨a, e0, _, w0⟩ := DataW.trod_int Try.underlying22 g0
  obtain ⟨b, e1, _, w1⟩ := DataW.trod_int Try.underlying22 g1
  simp at e0 e1
  exact ⟨a, b, e0, e1, bounds_u64 w0, bounds_u64 w1⟩
set_option maxRecDepth 20000 in
theorem head_opened {H : Type} {enc : TypeId × Value → H} {W : World} {base b0 : Nat} {r : Reach} {spare : Nat → Bool} {held : Bool} {v : Value} {d : DataW H} {p : List MemPlace}
    (hv : Value.okWide Try.prog W r b0 27 v) (h : DataW.Trod enc Try.prog W base spare held 27 v d p) :
    ∃ x : Hd, v = .agg (cH x) ∧ MayH x := by
  obtain ⟨cs, rfl, hsz⟩ := okWide_struct Try.underlying27 hv
  rw [cells_head] at hsz
  obtain ⟨fuel, hf⟩ := h
  obtain ⟨xs, n, _, _, _, hxl, hfs⟩ := DataW.trod_struct Try.underlying27 hf
  obtain ⟨l⟩ := cs
  have ci : Try.prog.cellsOf 3 = 1 := by kernel_rfl
  have cu : Try.prog.cellsOf 22 = 1 := by kernel_rfl
  have cb : Try.prog.cellsOf 4 = 1 := by kernel_rfl
  have c8 : Try.prog.cellsOf 5 = 1 := by kernel_rfl
  match l, hsz, xs, hxl, hfs with
  | [x0, x1, x2, x3, x4, x5, x6, x7, x8, x9, x10, x11, x12, x13, x14, x15, x16, x17, x18, x19, x20, x21, x22, x23], _, [y0, y1, y2, y3, y4, y5, y6, y7, y8, y9, y10, y11, y12, y13, y14, y15, y16, y17, y18, y19], _, hfs =>
    have g0 := hfs 0 _ rfl
    have g1 := hfs 1 _ rfl
    have g2 := hfs 2 _ rfl
    have g3 := hfs 3 _ rfl
    have g4 := hfs 4 _ rfl
    have g5 := hfs 5 _ rfl
    have g6 := hfs 6 _ rfl
    have g7 := hfs 7 _ rfl
    have g8 := hfs 8 _ rfl
    have g9 := hfs 9 _ rfl
    have g10 := hfs 10 _ rfl
    have g11 := hfs 11 _ rfl
    have g12 := hfs 12 _ rfl
    have g13 := hfs 13 _ rfl
    have g14 := hfs 14 _ rfl
    have g15 := hfs 15 _ rfl
    have g16 := hfs 16 _ rfl
    have g17 := hfs 17 _ rfl
    have g18 := hfs 18 _ rfl
    have g19 := hfs 19 _ rfl
    clear hfs
    simp [Value.cells, ci, cu, cb, c8, cells_sec] at g0 g1 g2 g3 g4 g5 g6 g7 g8 g9 g10 g11 g12 g13 g14 g15 g16 g17 g18 g19
    obtain ⟨n0, n1, rfl, rfl, b0, b1⟩ := sec_trod g0
    obtain ⟨n2, n3, rfl, rfl, b2, b3⟩ := sec_trod g1
    obtain ⟨n4, n5, rfl, rfl, b4, b5⟩ := sec_trod g2
    obtain ⟨n6, n7, rfl, rfl, b6, b7⟩ := sec_trod g3
    obtain ⟨n8, e8, _, w8⟩ := DataW.trod_int Try.underlying22 g4
    obtain ⟨n9, e9, _, w9⟩ := DataW.trod_int Try.underlying22 g5
    obtain ⟨n10, e10, _, w10⟩ := DataW.trod_int Try.underlying22 g6
    obtain ⟨n11, e11, _⟩ := DataW.trod_bool Try.underlying4 g7
    obtain ⟨n12, e12, _, w12⟩ := DataW.trod_int Try.underlying5 g8
    obtain ⟨n13, e13, _, w13⟩ := DataW.trod_int Try.underlying5 g9
    obtain ⟨n14, e14, _, w14⟩ := DataW.trod_int Try.underlying5 g10
    obtain ⟨n15, e15, _, w15⟩ := DataW.trod_int Try.underlying3 g11
    obtain ⟨n16, e16, _, w16⟩ := DataW.trod_int Try.underlying3 g12
    obtain ⟨n17, e17, _, w17⟩ := DataW.trod_int Try.underlying3 g13
    obtain ⟨n18, e18, _, w18⟩ := DataW.trod_int Try.underlying3 g14
    obtain ⟨n19, e19, _, w19⟩ := DataW.trod_int Try.underlying3 g15
    obtain ⟨n20, e20, _, w20⟩ := DataW.trod_int Try.underlying3 g16
    obtain ⟨n21, e21, _, w21⟩ := DataW.trod_int Try.underlying3 g17
    obtain ⟨n22, e22, _, w22⟩ := DataW.trod_int Try.underlying3 g18
    obtain ⟨n23, e23, _, w23⟩ := DataW.trod_int Try.underlying3 g19
    simp at e8 e9 e10 e11 e12 e13 e14 e15 e16 e17 e18 e19 e20 e21 e22 e23
    subst e8 e9 e10 e11 e12 e13 e14 e15 e16 e17 e18 e19 e20 e21 e22 e23
    exact ⟨⟨n0, n1, n2, n3, n4, n5, n6, n7, n8, n9, n10, n11, n12, n13, n14, n15, n16, n17, n18, n19, n20, n21, n22, n23⟩, rfl, b0, b1, b2, b3, b4, b5, b6, b7, bounds_u64 w8, bounds_u64 w9, bounds_u64 w10, bounds_u8 w12, bounds_u8 w13, bounds_u8 w14⟩
end Go.Proofs.Ytkhlkjhfgfjadaa
