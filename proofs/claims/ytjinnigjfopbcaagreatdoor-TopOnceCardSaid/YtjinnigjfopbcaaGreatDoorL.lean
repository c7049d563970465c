/- What the listed variables' condition gives the walks: the powers of ten, and the error that tells of a range; and that the program's own start meets it. -/
import Derived.Test.YtjinnigjfopbcaaGreatDoorRows
import Derived.ProofKit
import Derived.WalkKit
import Derived.WalkSpells
import Derived.LaidMore
import Derived.LaidSub
import Derived.Lay
import Derived.OpenShut
import Derived.Stop.Joined
import Derived.Lib.LaidTab
import Derived.Lib.ItoaNum
import Derived.Lib.SmallJoins
namespace Go.Proofs.YtjinnigjfopbcaaGreatDoor
open Go.ChangeShapes Go.WideShapes Go.ChangeAt Go.RowKit
set_option linter.unusedVariables false
theorem lOwn : ownKnob Tryz.prog.godebug = none := by kernel_rfl
theorem gPow : Tryz.prog.globalNamed "internal/strconv.uint64pow10" = some 6 := by kernel_rfl
theorem tPow : (Tryz.prog.globals[6]?).map (·.type) = some 496 := by kernel_rfl
theorem gRange : Tryz.prog.globalNamed "strconv.ErrRange" = some 3 := by kernel_rfl
theorem tRange : (Tryz.prog.globals[3]?).map (·.type) = some 257 := by kernel_rfl
def laidQ : List (String × DataW Unit) := [("math/bits.deBruijn32tab", Rows.laid_math_bits_deBruijn32tab), ("math/bits.deBruijn64tab", Rows.laid_math_bits_deBruijn64tab), ("internal/strconv.uint64pow10", Rows.laid_internal_strconv_uint64pow10), ("unicode/utf8.acceptRanges", Rows.laid_unicode_utf8_acceptRanges), ("strconv.ErrRange", Rows.laid_strconv_ErrRange), ("strconv.ErrSyntax", Rows.laid_strconv_ErrSyntax), ("unicode/utf8.first", Rows.laid_unicode_utf8_first)]
/-- What the world holds of the listed variables. -/
def QTab (W : World) : Prop := Lib.TabIs Tryz.prog W "internal/strconv.uint64pow10" .u64 Lib.pow10Tab ∧ ∃ ev, W.cell? ⟨3, 0, none⟩ = some ev ∧ (ev = .nilIface ∨ ∃ te pe, ev = .iface te pe)
theorem QTab.below {W W' : World} (h : QTab W) (hb : Below W.heap.size W W') : QTab W' := by
  obtain ⟨h1, ev, h2, h3⟩ := h
  exact ⟨Joins.tab_stays gPow h1 hb (Nat.le_refl _), ev, (hb.cell (World.block_lt_of_cell? _ _ h2)).trans h2, h3⟩
theorem trod_iface1 {H : Type} {enc : TypeId × Value → H} {P : Program} {w : World} {base : Nat} {sp : Nat → Bool} {held : Bool} {fuel : Nat} {t : TypeId} {ms : Array (String × TypeId)} {cs : List Value} {x : DataW H × List MemPlace}
    (ht : P.underlying t = some (.interface ms)) (h : DataW.trod enc P w base sp held fuel t cs = some x) : ∃ ev, cs = [ev] ∧ (ev = .nilIface ∨ ∃ u y, ev = .iface u y) := by
  cases fuel with
  | zero => simp [DataW.trod] at h
  | succ fuel =>
    match cs with
    | [] => simp [DataW.trod, ht] at h
    | [.nilIface] => exact ⟨_, rfl, .inl rfl⟩
    | [.iface u y] => exact ⟨_, rfl, .inr ⟨u, y, rfl⟩⟩
    | [.bool _] => simp [DataW.trod, ht] at h
    | [.int _ _] => simp [DataW.trod, ht] at h
    | [.float _ _] => simp [DataW.trod, ht] at h
    | [.string _] => simp [DataW.trod, ht] at h
    | [.pointer none] => simp [DataW.trod, ht] at h
    | [.pointer (some _)] => simp [DataW.trod, ht] at h
    | [.slice none 0 0] => simp [DataW.trod, ht] at h
    | [.slice a b c] => simp [DataW.trod, ht] at h
    | [.map none] => simp [DataW.trod, ht] at h
    | [.map (some _)] => simp [DataW.trod, ht] at h
    | [.nilFunc] => simp [DataW.trod, ht] at h
    | [.func _ _ _] => simp [DataW.trod, ht] at h
    | [.chan none] => simp [DataW.trod, ht] at h
    | [.chan (some _)] => simp [DataW.trod, ht] at h
    | [.agg _] => simp [DataW.trod, ht] at h
    | [.complex _ _ _] => simp [DataW.trod, ht] at h
    | [.tuple _] => simp [DataW.trod, ht] at h
    | a :: b :: c => simp [DataW.trod, ht] at h
theorem of_laid {W : World} (h : laidMetH Tryz.prog laidQ W) : QTab W := by
  have h1 := laidMetH.filter (fun x => x.1 == "internal/strconv.uint64pow10") h
  have h2 := laidMetH.filter (fun x => x.1 == "strconv.ErrRange") h
  have e1 : laidQ.filter (fun x => x.1 == "internal/strconv.uint64pow10") = [("internal/strconv.uint64pow10", Lib.tabData .u64 Lib.pow10Tab)] := by rfl
  have e2 : laidQ.filter (fun x => x.1 == "strconv.ErrRange") = [("strconv.ErrRange", Rows.laid_strconv_ErrRange)] := by rfl
  rw [e1, MakeChecks.laidMetH_plain _ _ _ (by kernel_rfl)] at h1
  rw [e2, MakeChecks.laidMetH_plain _ _ _ (by kernel_rfl)] at h2
  refine ⟨Lib.tabIs_of_head gPow tPow Tryz.underlying496 Tryz.underlying26 (by kernel_rfl) (by kernel_rfl) h1, ?_⟩
  obtain ⟨ps, ⟨g0, t0, cs0, f0, p0, q0, hg0, ht0, hv0, hd0, _, _⟩, _, _⟩ := h2
  obtain rfl := Option.some.inj (gRange.symm.trans hg0)
  obtain rfl := Option.some.inj (tRange.symm.trans ht0)
  obtain ⟨ev, e, hev⟩ := trod_iface1 Tryz.underlying257 hd0
  have := World.var?_cell hg0 hv0 0
  refine ⟨ev, this.trans ?_, hev⟩
  have : cs0[0]? = cs0.toList[0]? := by simp
  rw [this, e]; rfl
set_option maxRecDepth 100000 in
theorem door_met (os : Os) (args : Array Value) : laidMetH Tryz.prog laidQ ((World.laidAll Tryz.prog os laidQ).forCall (fun _ _ => 0) ⟨#[], args, []⟩).memory := by
  rw [MakeChecks.laidMetH_plain _ _ _ (by kernel_rfl)]
  exact laidMet_laidAll _ (by kernel_rfl) (by kernel_rfl)
end Go.Proofs.YtjinnigjfopbcaaGreatDoor
