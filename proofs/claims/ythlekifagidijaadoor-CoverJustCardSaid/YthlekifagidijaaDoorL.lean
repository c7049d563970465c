/- What the listed variable's condition gives the walks: the table of the quarters; and that the program's own start meets it. -/
import Derived.Test.YthlekifagidijaaDoorA
import Derived.ProofKit
import Derived.LaidMore
import Derived.OpenShut
import Derived.Stop.Joined
import Derived.Lib.SmallJoins
namespace Go.Proofs.YthlekifagidijaaDoor
open Go.ChangeShapes Go.WideShapes Go.ChangeAt Go.RowKit
set_option linter.unusedVariables false
theorem lOwn : ownKnob Tryd.prog.godebug = none := by kernel_rfl
theorem gQuarters : Tryd.prog.globalNamed "gazetteer/curve.quarters" = some 0 := by kernel_rfl
theorem tQuarters : (Tryd.prog.globals[0]?).map (·.type) = some 98 := by kernel_rfl
def laidQ {H : Type} : List (String × DataW H) := [("gazetteer/curve.quarters", Rows.laid_gazetteer_curve_quarters)]
theorem quart_of_trod {H : Type} {enc : TypeId × Value → H} {W : World} {base : Nat} {spare : Nat → Bool} {held : Bool} {m : Nat} {l : List Value} {x : DataW H × List MemPlace} {r u : Int} {s t : Bool}
    (h : DataW.trod enc Tryd.prog W base spare held m 97 l = some x) (hx : x.1 = .agg [.lit (.int .i64 r), .lit (.int .i64 u), .lit (.bool s), .lit (.bool t)]) :
    l = [.int .i64 r, .int .i64 u, .bool s, .bool t] := by
  have c3 : Tryd.prog.cellsOf 3 = 1 := by kernel_rfl
  have c4 : Tryd.prog.cellsOf 4 = 1 := by kernel_rfl
  have c44 : Tryd.prog.cellsOf 97 = 4 := by kernel_rfl
  obtain ⟨y0, y1, y2, y3, n, rfl, hl, h0, h1, h2, h3⟩ := Joins.trod_struct4 Tryd.underlying97 h
  rw [c44] at hl
  simp only [DataW.agg.injEq, List.cons.injEq] at hx
  obtain ⟨x0, x1, x2, x3, _⟩ := hx
  simp only [c3, c4] at h0 h1 h2 h3
  obtain ⟨n0, e0, f0, _⟩ := DataW.trod_int Tryd.underlying3 h0
  obtain ⟨n1, e1, f1, _⟩ := DataW.trod_int Tryd.underlying3 h1
  obtain ⟨n2, e2, f2⟩ := DataW.trod_bool Tryd.underlying4 h2
  obtain ⟨n3, e3, f3⟩ := DataW.trod_bool Tryd.underlying4 h3
  rw [f0] at x0; rw [f1] at x1; rw [f2] at x2; rw [f3] at x3
  cases x0; cases x1; cases x2; cases x3
  match l, hl with
  | [a, b, c, d], _ =>
    simp at e0 e1 e2 e3
    subst e0; subst e1; subst e2; subst e3
    rfl
set_option maxRecDepth 100000 in
theorem of_laid {W : World} (h : laidMetH Tryd.prog laidQ W) : QTab W := by
  rw [MakeChecks.laidMetH_plain _ _ _ (by kernel_rfl)] at h
  obtain ⟨ps, ⟨g0, t0, cs0, f0, p0, q0, hg0, ht0, hv0, hd0, _, _⟩, _, _⟩ := h
  obtain rfl := Option.some.inj (gQuarters.symm.trans hg0)
  obtain rfl := Option.some.inj (tQuarters.symm.trans ht0)
  obtain ⟨xs, m, rfl, hx, hlen, hn4, hel⟩ := DataW.trod_array Tryd.underlying98 hd0
  have c44 : Tryd.prog.cellsOf 97 = 4 := by kernel_rfl
  have c45 : Tryd.prog.cellsOf 98 = 16 := by kernel_rfl
  rw [c44] at hel
  rw [c45] at hlen
  have hcell := World.var?_cell hg0 hv0
  simp only [Prod.mk.injEq, Rows.laid_gazetteer_curve_quarters, DataW.agg.injEq] at hx
  match xs, hn4, hx, hel with
  | [x0, x1, x2, x3], _, hx, hel =>
    simp only [List.map_cons, List.map_nil, List.cons.injEq] at hx
    obtain ⟨⟨y0, y1, y2, y3, _⟩, _⟩ := hx
    have q0 := quart_of_trod (hel 0 (by decide)) y0.symm
    have q1 := quart_of_trod (hel 1 (by decide)) y1.symm
    have q2 := quart_of_trod (hel 2 (by decide)) y2.symm
    have q3 := quart_of_trod (hel 3 (by decide)) y3.symm
    have hcs : cs0.toList = (cs0.toList.drop 0).take 4 ++ ((cs0.toList.drop 4).take 4 ++ ((cs0.toList.drop 8).take 4 ++ (cs0.toList.drop 12).take 4)) := by
      generalize cs0.toList = l at *
      match l, hlen with
      | [a0, a1, a2, a3, a4, a5, a6, a7, a8, a9, a10, a11, a12, a13, a14, a15], _ => rfl
    simp only [Nat.zero_mul, Nat.one_mul, Nat.reduceMul] at q0 q1 q2 q3
    rw [q0, q1, q2, q3] at hcs
    have hcell : ∀ i, W.cell? ⟨0, i, none⟩ = cs0.toList[i]? := fun i => by rw [hcell i]; simp
    rw [hcs] at hcell
    refine ⟨?_, ⟨hcell 0, hcell 1, hcell 2, hcell 3⟩, ⟨hcell 4, hcell 5, hcell 6, hcell 7⟩, ⟨hcell 8, hcell 9, hcell 10, hcell 11⟩, ⟨hcell 12, hcell 13, hcell 14, hcell 15⟩⟩
    have h0 := hcell 0
    refine Decidable.byContradiction fun hn => ?_
    simp only [World.cell?] at h0
    have : W.heap[0]? = none := Array.getElem?_eq_none (by omega)
    rw [this] at h0
    cases h0
set_option maxRecDepth 100000 in
theorem door_met (os : Os) (args : Array Value) : laidMetH Tryd.prog laidQ ((World.doorLaid Tryd.prog 400 os).forCall (fun _ _ => 0) ⟨#[], args, []⟩).memory :=
  laidMetH_of_parts3 (fuel := 8) (laidMet_of_run' 8 (by kernel_rfl) (by kernel_rfl)) (by kernel_rfl) (by kernel_rfl)
end Go.Proofs.YthlekifagidijaaDoor
