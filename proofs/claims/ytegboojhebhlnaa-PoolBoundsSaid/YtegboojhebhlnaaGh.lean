/- strings.Clone; a result in two cells; an append as one step of a region that draws; a pool on its way to one content more. -/
import Derived.Test.YtegboojhebhlnaaGd
import Derived.Test.YtegboojhebhlnaaRc
import Derived.Deep.RegionLawGrows
import Derived.Deep.DeepCutAuto
import Derived.Deep.CutRange
import Derived.Deep.RegionHeld3
namespace Go.Proofs.Ytegboojhebhlnaa
open Go.RowKit
set_option linter.unusedVariables false
set_option linter.unusedSimpArgs false
theorem sclone_any (s : ByteArray) (w : World) (hs : s.size ≤ 281474976710656) : Calls Try.prog 38 #[.string s] w fun e w' => e = .returned (.string s) ∧ Below w.heap.size w w' := by
  have HC := Lib.hid (fun W => clo_any s W hs)
  go_enter Try.func38, Try.ntmps38
  go_wp2_with fail
  refine (HC.out _).mono ?_
  rintro e w1 ⟨rfl, hb⟩
  have HB := Lib.hid hb
  clear hb
  go_wp2_with fail
  go_ret
  exact ⟨rfl, HB.out⟩
/-- A place in a cell, as the one result. -/
theorem results_ct1 {fn : Func} {p : Tmp} {ty : TypeId} (h : fn.results = #[.cell p ty]) (tmps : Array Value) (w : World) (g : Nat) (x y : Value) (d : TypeDesc) (hp : tmps.getD p undef = .pointer (some ⟨g, 0, none⟩)) (c0 : w.cell? ⟨g, 0, none⟩ = some x) (c1 : w.cell? ⟨g, 1, none⟩ = some y)
    (hu : Try.prog.underlying ty = some d) (hd : (match d with | .struct _ | .array _ _ => true | _ => false) = true) (hi : (Try.prog.info? ty).map (·.size) = some 2) :
    (results fn tmps).run Try.prog w = .ok (.agg #[x, y]) w := by
  have hl := two_load w g ty x y d c0 c1 hu hd hi
  have hp' : tmps[p]?.getD undef = .pointer (some ⟨g, 0, none⟩) := by simpa using hp
  simp [results, h, hp', asAddr, hl]
/-- An append of one, as one step of a region that draws. -/
theorem step_kappend {ops : Array Oper} {o : Oper} {a : Act} {w : World} {K : Act → World → Prop} {Q : Exit → Act → World → Prop} {E : Prop}
    (hg : o.guard = none) (s x : Operand) (hop : o.op = Op.call { callee := Callee.builtin Builtin.append, args := #[s, x], argTypes := #[56, 56] })
    (v : Value) (L : List Kt) (t : Kt) (g c : Nat) (hown : OwnK w 0 v L) (h3 : Three w g t) (hl : L.length ≤ 1000000) (hs : a.eval s = v) (hx : a.eval x = .slice (some ⟨g, 0, none⟩) 1 c)
    (hK : ∀ v' w', OwnK w' 0 v' (L ++ [t]) → w.grownBy w' v.ownBlock → (v'.ownBlock = v.ownBlock ∨ ∃ g, v'.ownBlock = some g ∧ w.heap.size ≤ g) → K (a.put o.dst v') w') :
    if Region.wanted o (yielded ops a.tmps) = true then Oper.wp Try.prog o a w K Q else E := by
  have hw : Region.wanted o (yielded ops a.tmps) = true := by simp [Region.wanted, hg]
  rw [if_pos hw]
  obtain ⟨v', w', hrun, h1, h2, h4⟩ := kappend_run w o.type v L t g c hown h3 hl
  unfold Oper.wp
  simp [execOp, hop, resolve, invoke, builtin, hs, hx, hrun, Result.andThen]
  exact hK v' w' h1 h2 h4
/-- A pool on its way: the map is there, nothing is put yet. -/
structure MidL (w W : World) (pb rb kb mb : Nat) (va vm : Value) (G : Int → Value) (l : List ByteArray) (s : ByteArray) : Prop where
  two : Two W pb va (.map (some mb))
  all : OwnK W 0 va (plc l 0)
  map : MapG W mb l.length G
  grps : ∀ k, OwnK W 0 (G k) (grp k (plc l 0))
  kt : Three W kb (totF l, s)
  rs : Two W rb (.int .u64 0) (.int .u32 0)
  lr : w.heap.size ≤ rb
  lk : w.heap.size ≤ kb
  nk : rb ≠ kb
  nm : mb ≠ pb
  om : vm = .map (some mb) ∨ w.heap.size ≤ mb
  la : ∀ g, va.ownBlock = some g → g < w.heap.size
  lg : ∀ k g, (G k).ownBlock = some g → g < w.heap.size
  kept : Kept (blkS pb va vm G) (blkS pb va vm G) w W
theorem MidL.below {w W X : World} {pb rb kb mb : Nat} {va vm : Value} {G : Int → Value} {l : List ByteArray} {s : ByteArray} (h : MidL w W pb rb kb mb va vm G l s) (hb : Below W.heap.size W X) : MidL w X pb rb kb mb va vm G l s :=
  ⟨h.two.below hb, h.all.below hb, h.map.below hb, fun k => (h.grps k).below hb, h.kt.below hb, h.rs.below hb, h.lr, h.lk, h.nk, h.nm, h.om, h.la, h.lg, h.kept.trans (Kept.below _ hb)⟩
/-- Behind the first append: the row has turned. -/
structure Mid2 (w W : World) (pb rb kb mb : Nat) (va vm va' : Value) (G : Int → Value) (l : List ByteArray) (s : ByteArray) : Prop where
  two : Two W pb va' (.map (some mb))
  all : OwnK W 0 va' (plc l 0 ++ [(totF l, s)])
  map : MapG W mb l.length G
  grps : ∀ k, OwnK W 0 (G k) (grp k (plc l 0))
  kt : Three W kb (totF l, s)
  rs : Two W rb (.int .u64 0) (.int .u32 0)
  oa : va'.ownBlock = va.ownBlock ∨ ∃ g, va'.ownBlock = some g ∧ w.heap.size ≤ g ∧ g ≠ rb ∧ g ≠ kb ∧ g ≠ mb ∧ g ≠ pb
  kept : Kept (blkS pb va vm G) (blkS pb va vm G) w W
theorem Mid2.below {w W X : World} {pb rb kb mb : Nat} {va vm va' : Value} {G : Int → Value} {l : List ByteArray} {s : ByteArray} (h : Mid2 w W pb rb kb mb va vm va' G l s) (hb : Below W.heap.size W X) : Mid2 w X pb rb kb mb va vm va' G l s :=
  ⟨h.two.below hb, h.all.below hb, h.map.below hb, fun k => (h.grps k).below hb, h.kt.below hb, h.rs.below hb, h.oa, h.kept.trans (Kept.below _ hb)⟩
end Go.Proofs.Ytegboojhebhlnaa
