/- The blocks of the program's Cut; strings.Clone. -/
import Derived.Test.YtkhlkjhfgfjadaaPc
import Derived.Test.YtkhlkjhfgfjadaaYg
import Derived.Test.YtkhlkjhfgfjadaaRc
namespace Go.Proofs.Ytkhlkjhfgfjadaa
open Go.RowKit
set_option maxRecDepth 100000
set_option linter.unusedVariables false
set_option linter.unusedSimpArgs false
/-- What stands before the parts are gone through: the two results' blocks, the header's. -/
structure CutWp (w W : World) (X : Hd) (b5 : Nat) : Prop where
  rh : HAt W w.heap.size 38 zeroH
  rp : W.heap[w.heap.size + 1]? = some (.cells #[.string noB, .string noB, .string noB, .string noB] 44 (0, 0))
  hd : HAt W b5 38 X
  lt : w.heap.size + 2 ≤ b5
  bel : Below w.heap.size w W
theorem z24_sizep : (Try.prog.info? 38).map (·.size) = some Z24.size := head_size
/-- The results' blocks made zero, whatever stands there. -/
structure ZeroWp (w W : World) (b : Nat) : Prop where
  s1 : W.heap[b]? = some (.cells Z24 38 (0, 0))
  s2 : (W.setRow b Z24).heap[b + 1]? = some (.cells P4 44 (0, 0))
  e1 : HAt ((W.setRow b Z24).setRow (b + 1) P4) b 38 zeroH
  e2 : ((W.setRow b Z24).setRow (b + 1) P4).heap[b + 1]? = some (.cells P4 44 (0, 0))
  e3 : Below w.heap.size w ((W.setRow b Z24).setRow (b + 1) P4)
theorem zeroW_ofp {w W : World} (h1 : HAt W w.heap.size 38 zeroH) (h2 : W.heap[w.heap.size + 1]? = some (.cells P4 44 (0, 0))) (hb : Below w.heap.size w W) : ZeroWp w W w.heap.size := by
  have hz : cH zeroH = Z24 := rfl
  have hp := put24 W w.heap.size 38 zeroH zeroH h1
  rw [hz] at hp
  have g2 : (W.setRow w.heap.size Z24).heap[w.heap.size + 1]? = some (.cells P4 44 (0, 0)) := (hp.2.2.2 _ (by omega)).trans h2
  refine ⟨h1, g2, (setRow_other _ _ _ _ (by omega)).trans hp.1, hrow g2 rfl, below_setRow (hp.2.2.1 _ _ (Nat.le_refl _) hb) (by omega) _⟩
/-- The results' blocks filled. -/
structure FullWp (w W : World) (g : Nat) (Hc P : Array Value) : Prop where
  s1 : W.heap[w.heap.size]? = some (.cells Z24 38 (0, 0))
  p0 : W.heap[g]? = some (.cells P 44 (0, 0))
  s2 : (W.setRow w.heap.size Hc).heap[w.heap.size + 1]? = some (.cells P4 44 (0, 0))
  p1 : (W.setRow w.heap.size Hc).heap[g]? = some (.cells P 44 (0, 0))
  e1 : ((W.setRow w.heap.size Hc).setRow (w.heap.size + 1) P).heap[w.heap.size]? = some (.cells Hc 38 (0, 0))
  e2 : P.size = 4 → ((W.setRow w.heap.size Hc).setRow (w.heap.size + 1) P).heap[w.heap.size + 1]? = some (.cells P 44 (0, 0))
  e3 : Below w.heap.size w ((W.setRow w.heap.size Hc).setRow (w.heap.size + 1) P)
theorem fullW_ofp {w W : World} {X : Hd} {g : Nat} {P : Array Value} (h1 : HAt W w.heap.size 38 zeroH) (h2 : W.heap[w.heap.size + 1]? = some (.cells P4 44 (0, 0))) (hb : Below w.heap.size w W) (hg : w.heap.size + 1 < g)
    (hP : PrAt W g P) : FullWp w W g (cH X) P := by
  have hz : cH zeroH = Z24 := rfl
  have hp := put24 W w.heap.size 38 zeroH X h1
  have g2 : (W.setRow w.heap.size (cH X)).heap[w.heap.size + 1]? = some (.cells P4 44 (0, 0)) := (hp.2.2.2 _ (by omega)).trans h2
  refine ⟨h1, hP, g2, (hp.2.2.2 _ (by omega)).trans hP, (setRow_other _ _ _ _ (by omega)).trans hp.1, fun hs => hrow g2 (by rw [hs]; rfl), below_setRow (hp.2.2.1 _ _ (Nat.le_refl _) hb) (by omega) _⟩
theorem CutWp.later {w W W' : World} {X : Hd} {b5 B : Nat} (h : CutWp w W X b5) (hb : Below B W W') (hB : b5 < B) : CutWp w W' X b5 := by
  have hl := h.lt
  refine ⟨(hb.block _ (by omega)).trans h.rh, (hb.block _ (by omega)).trans h.rp, (hb.block _ hB).trans h.hd, hl, h.bel.trans (hb.mono (by omega))⟩
theorem load_hdp {w : World} {g : Nat} {T : TypeId} {h : Hd} (H : HAt w g T h) : (loadVar 38 ⟨g, 0, none⟩).run Try.prog w = .ok (.agg (cH h)) w := run_loadVar_row w g T _ (cH h) (0, 0) _ H Try.underlying38 rfl head_size
theorem sclone_any (s : ByteArray) (w : World) (hs : s.size ≤ 281474976710656) : Calls Try.prog 28 #[.string s] w fun e w' => e = .returned (.string s) ∧ Below w.heap.size w w' := by
  have HC := Lib.hid (fun W => clo_any s W hs)
  go_enter Try.func28, Try.ntmps28
  go_wp2_with fail
  refine (HC.out _).mono ?_
  rintro e w1 ⟨rfl, hb⟩
  have HB := Lib.hid hb
  clear hb
  go_wp2_with fail
  go_ret
  exact ⟨rfl, HB.out⟩
end Go.Proofs.Ytkhlkjhfgfjadaa
