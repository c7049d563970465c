/- aLs aLu aLr13. -/
import Derived.WalkKit
import Derived.Lib.Hide
import Derived.ProofKit
import Derived.Outline
import Derived.WalkSpells
import Derived.WalkLawsBesides
import Derived.Below
import Derived.Laws.OwnMore
import Derived.Laws.AppendOwn
import Derived.Laws.AppendOwnNone
import Derived.OwnWalk
import Derived.Laws.Concat
import Derived.Laws.Rows
import Derived.Lib.AppendZeros
import Derived.Laws.StructEq
import Derived.Deep.QuietTactic
import Derived.BigQuiet
import Derived.Test.YtdnmgpcfgcidbaaGreatDoorRows
import Derived.Deep.RegionHeld3
import Derived.Handy
import Derived.Deep.RegionLawGrows
import Derived.Deep.RegionWith
import Derived.Deep.DeepCutAuto
import Derived.Deep.CutRange
import Derived.Test.YtdnmgpcfgcidbaaGreatDoorRc
import Derived.Lib.AppendZerosOnto
import Derived.Deep.AppendSrc
import Derived.Lib.Overlaps
import Derived.Laws.Externs
import Derived.Laws.CopyOwn
import Derived.IntWalk
import Derived.Deep.MidRow
import Derived.Test.YtdnmgpcfgcidbaaGreatDoorPa6
import Derived.Test.YtdnmgpcfgcidbaaGreatDoorPa7
import Derived.Test.YtdnmgpcfgcidbaaGreatDoorPa3
import Derived.Test.YtdnmgpcfgcidbaaGreatDoorPa1
import Derived.Test.YtdnmgpcfgcidbaaGreatDoorPa2
import Derived.Test.YtdnmgpcfgcidbaaGreatDoorPa4
import Derived.Lib.SmallJoins
import Derived.Deep.SlicePairs
import Derived.Deep.Slices
import Derived.Carry
import Derived.OpenShut
namespace Go.Proofs.YtdnmgpcfgcidbaaGreatDoor
set_option linter.unusedVariables false
set_option linter.unusedSimpArgs false
open Go.RowKit
set_option maxRecDepth 20000
theorem own_built (X : World) (B b : Nat) (hb : X.heap[b]? = some (.cells #[] 69 (0, 0))) (hB : B ≤ b) : OwnIt X B 69 (.slice (some ⟨b, 0, none⟩) 0 0) [] :=
  ⟨rfl, .inr ⟨b, 0, #[], rfl, hB, hb, Nat.le_refl _, Nat.zero_le _, rfl, rfl⟩⟩
theorem step_itappend {ops : Array Oper} {o : Oper} {a : Act} {w : World} {K : Act → World → Prop} {Q : Exit → Act → World → Prop} {E : Prop}
    (hg : o.guard = none) (s x : Operand) (hop : o.op = Op.call { callee := Callee.builtin Builtin.append, args := #[s, x], argTypes := #[27, 27] })
    (B : Nat) (v xv : Value) (L m : List It) (hown : OwnIt w B 69 v L) (hxa : ItsAt w xv m) (hl : L.length + m.length ≤ 1000000) (hb : B ≤ w.heap.size) (hs : a.eval s = v) (hx : a.eval x = xv)
    (hK : ∀ v' w', OwnIt w' B 69 v' (L ++ m) → w.grownBy w' v.ownBlock → K (a.put o.dst v') w') :
    if Region.wanted o (yielded ops a.tmps) = true then Oper.wp Tryz.prog o a w K Q else E := by
  have hw : Region.wanted o (yielded ops a.tmps) = true := by simp [Region.wanted, hg]
  rw [if_pos hw]
  obtain ⟨v', w', hrun, h1, h2⟩ := itappend_run w B 27 69 o.type _ Tryz.underlying27 infoPit rfl v xv L m hown hxa hl hb
  unfold Oper.wp
  simp [execOp, hop, resolve, invoke, builtin, hs, hx, hrun, Result.andThen]
  exact hK v' w' h1 h2
theorem heap_new2 (w : World) (o o' : Obj) : ((w.alloc o).alloc o').heap[w.heap.size + 1]? = some o' := by
  have h := heap_new (w.alloc o) o'
  rw [World.size_alloc] at h
  exact h
theorem heap_old2 (w : World) (o o' : Obj) : ((w.alloc o).alloc o').heap[w.heap.size]? = some o :=
  ((below_oneC (w.alloc o) o').block w.heap.size (by rw [World.size_alloc]; omega)).trans (heap_new w o)
end Go.Proofs.YtdnmgpcfgcidbaaGreatDoor
namespace Go.Proofs.YtdnmgpcfgcidbaaGreatDoor
set_option linter.unusedVariables false
set_option linter.unusedSimpArgs false
def kT : ByteArray := { data := #[116] }
def bl (n : Nat) : List It := (List.range n).map (fun i => (3 * i, kT))
end Go.Proofs.YtdnmgpcfgcidbaaGreatDoor
namespace Go.Proofs.YtdnmgpcfgcidbaaGreatDoor
set_option linter.unusedVariables false
set_option linter.unusedSimpArgs false
open Go.ChangeShapes Go.WideShapes Go.ChangeAt Go.RowKit Go.Joins Go.Deep
set_option maxRecDepth 100000
theorem lLaid : laidOutB Tryz.prog = true := by kernel_rfl
theorem nat_of {a : Int} (h : 0 ≤ a) : ∃ n : Nat, a = (n : Int) := ⟨a.toNat, by omega⟩
theorem cells_it : Tryz.prog.cellsOf 74 = 2 := by kernel_rfl
theorem it_trod {H : Type} {enc : TypeId × Value → H} {W : World} {base n : Nat} {spare : Nat → Bool} {held : Bool} {cs : List Value} {z : DataW H × List MemPlace}
    (h : DataW.trod enc Tryz.prog W base spare held n 74 cs = some z) : ∃ e : It, cs = [.int .u64 e.1, .string e.2] ∧ e.1 < 18446744073709551616 ∧ e.2.size ≤ maxLen := by
  have cu : Tryz.prog.cellsOf 40 = 1 := by kernel_rfl
  have cw : Tryz.prog.cellsOf 9 = 1 := by kernel_rfl
  obtain ⟨xs, k, _, _, hl, hxl, hfs⟩ := DataW.trod_struct Tryz.underlying74 h
  rw [cells_it] at hl
  match cs, hl, xs, hxl, hfs with
  | [x0, x1], _, [y0, y1], _, hfs =>
    have g0 := hfs 0 _ rfl
    have g1 := hfs 1 _ rfl
    simp [cu, cw] at g0 g1
    obtain ⟨b0, e0, _, w0⟩ := DataW.trod_int Tryz.underlying40 g0
    obtain ⟨a0, rfl⟩ := nat_of (bounds_u64 w0).1
    obtain ⟨a1, e1, _, w1⟩ := DataW.trod_string Tryz.underlying9 g1
    simp at e0 e1
    subst e0 e1
    exact ⟨⟨a0, a1⟩, rfl, (by have := (bounds_u64 w0).2; show a0 < 18446744073709551616; omega), w1⟩
theorem its_opened {H : Type} {enc : TypeId × Value → H} {W : World} {base b0 : Nat} {r : Reach} {spare : Nat → Bool} {held : Bool} {v : Value} {d : DataW H} {p : List MemPlace}
    (hv : Value.okWide Tryz.prog W r b0 22 v) (h : DataW.Trod enc Tryz.prog W base spare held 22 v d p) :
    ∃ l, ItsAt W v l ∧ ∀ e ∈ l, e.1 < 18446744073709551616 ∧ e.2.size ≤ maxLen := by
  obtain ⟨a, len, cap, rfl⟩ := okWide_slice Tryz.underlying22 hv
  obtain ⟨fuel, hf⟩ := h
  rcases open_slice Tryz.underlying22 hf with ⟨hcs, _⟩ | ⟨x, l, c, m, n, D, Pl, hcs, _, hl, hm, hmm, hxe, hx⟩
  · simp [Value.cells] at hcs
    obtain ⟨rfl, rfl, rfl⟩ := hcs
    exact ⟨[], ⟨none, 0, rfl, Nat.le_refl _, by simp, fun k t h => by simp at h⟩, fun e he => by simp at he⟩
  · simp [Value.cells] at hcs
    obtain ⟨rfl, rfl, rfl⟩ := hcs
    have hlm : len ≤ m := by rw [hmm]; split <;> omega
    have hint : ∀ i, i < len → ∃ e : It, (W.cell? (x.add (i * 2)) = some (.int .u64 e.1) ∧ W.cell? (x.add (i * 2 + 1)) = some (.string e.2)) ∧ (e.1 < 18446744073709551616 ∧ e.2.size ≤ maxLen) := by
      intro i hi
      obtain ⟨cs', q1, q2⟩ := hx i (by omega)
      rw [cells_it] at q1
      obtain ⟨_, hlen, hcell⟩ := World.cells?_some q1
      obtain ⟨e, rfl, hme⟩ := it_trod q2
      have e0 := hcell 0 (by simp)
      have e1 := hcell 1 (by simp)
      rw [add_add] at e0 e1
      exact ⟨e, ⟨by simpa using e0, by simpa using e1⟩, hme⟩
    have hspot : 0 < len → x.spot = none := by
      intro h0
      obtain ⟨_, ⟨q, _⟩, _⟩ := hint 0 h0
      have : x.add (0 * 2) = x := by simp [Addr.add]
      rw [this] at q
      unfold World.cell? at q
      split at q
      · split at q
        · cases q
        · rename_i hs
          cases hx : x.spot with
          | none => rfl
          | some k => rw [hx] at hs; simp at hs
      · cases q
    obtain ⟨q, hq⟩ := @choose_lt It ⟨(0, { data := #[] })⟩ len (fun i e => (W.cell? (x.add (i * 2)) = some (.int .u64 e.1) ∧ W.cell? (x.add (i * 2 + 1)) = some (.string e.2)) ∧ (e.1 < 18446744073709551616 ∧ e.2.size ≤ maxLen)) hint
    let L := (List.range len).map q
    have hlen : L.length = len := by simp [L]
    have hat : ∀ k t, L[k]? = some t → k < len ∧ t = q k := by
      intro k t ht
      have hk : k < L.length := (List.getElem?_eq_some_iff.1 ht).1
      rw [hlen] at hk
      refine ⟨hk, ?_⟩
      simp only [L, List.getElem?_map, List.getElem?_range hk, Option.map_some, Option.some.injEq] at ht
      exact ht.symm
    refine ⟨L, ⟨some x, cap, by rw [hlen], by omega, hm, fun k t ht => ?_⟩, fun t ht => ?_⟩
    · obtain ⟨hk, rfl⟩ := hat k t ht
      obtain ⟨⟨q0, q1⟩, _⟩ := hq k hk
      have hsp := hspot (by omega)
      obtain ⟨g, off, sp⟩ := x
      simp only at hsp
      subst hsp
      have ad : ∀ j, (⟨g, off, none⟩ : Addr).add j = ⟨g, off + j, none⟩ := fun j => by simp [Addr.add]
      rw [ad] at q0 q1
      exact ⟨g, off, rfl, vcell_lt q0, q0, by rw [Nat.add_assoc]; exact q1⟩
    · obtain ⟨k, hk, hkt⟩ := List.getElem_of_mem ht
      obtain ⟨hk2, rfl⟩ := hat k t (by rw [List.getElem?_eq_getElem hk, hkt])
      exact (hq k hk2).2
theorem it_opened {H : Type} {enc : TypeId × Value → H} {W : World} {base b0 : Nat} {r : Reach} {spare : Nat → Bool} {held : Bool} {v : Value} {d : DataW H} {p : List MemPlace}
    (hv : Value.okWide Tryz.prog W r b0 74 v) (h : DataW.Trod enc Tryz.prog W base spare held 74 v d p) :
    ∃ e : It, v = .agg #[.int .u64 e.1, .string e.2] ∧ (e.1 < 18446744073709551616 ∧ e.2.size ≤ maxLen) := by
  obtain ⟨cs, rfl, hsz⟩ := okWide_struct Tryz.underlying74 hv
  obtain ⟨fuel, hf⟩ := h
  obtain ⟨e, he, hm⟩ := it_trod hf
  refine ⟨e, ?_, hm⟩
  obtain ⟨l⟩ := cs
  have he' : l = [.int .u64 e.1, .string e.2] := he
  rw [he']
end Go.Proofs.YtdnmgpcfgcidbaaGreatDoor
