/- The program's taken: what it hands on (the entries that Check takes, in order), as a contract of the iterator. -/
import Derived.RangeFuncNested
import Derived.RangeFuncBound
import Derived.RangeFuncCalls
import Derived.RangeFuncLeaves
import Derived.RangeFuncWrites
import Derived.Shelf.Abstract
import Derived.Shelf.RegionOpen
import Derived.WalkKit
import Derived.OwnWalkIn
import Derived.TacticsInMore
import Derived.LoopNIn
import Derived.LoopIn
import Derived.Test.YthaembnfdkcheaaME
import Derived.Test.YthaembnfdkcheaaMP
namespace Go.Proofs.Ythaembnfdkcheaa
open Go.RowKit Go.Shelf
set_option linter.unusedVariables false
set_option linter.unusedSimpArgs false
attribute [local go_sem] Oper.semAt_some
/-- An entry that Check takes. -/
abbrev Ok := { e : En // MayN e ∧ ckN e = 0 }
open Classical in
noncomputable def tk (l : List En) : List Ok := l.filterMap fun e => if h : MayN e ∧ ckN e = 0 then some ⟨e, h⟩ else none
theorem tk_nil : tk [] = [] := rfl
theorem tk_yes (l : List En) (e : En) (h : MayN e ∧ ckN e = 0) : tk (l ++ [e]) = tk l ++ [⟨e, h⟩] := by simp [tk, h]
theorem tk_no (l : List En) (e : En) (h : ¬ ckN e = 0) : tk (l ++ [e]) = tk l := by simp [tk, h]
theorem tk_len (l : List En) : (tk l).length ≤ l.length := List.length_filterMap_le _ _
theorem tk_pre (l : List En) (k : Nat) : tk (l.take k) <+: tk l := by
  refine ⟨tk (l.drop k), ?_⟩
  unfold tk
  rw [← List.filterMap_append, List.take_append_drop]
theorem tk_lt (l : List En) (k : Nat) (e : En) (he : l[k]? = some e) (h : MayN e ∧ ckN e = 0) : (tk (l.take k)).length < (tk l).length := by
  obtain ⟨r, hr⟩ := tk_pre l (k + 1)
  rw [take_one l k e he, tk_yes _ e h] at hr
  rw [← hr]
  simp
theorem abides {β : Type} {J : β → World → Prop} {B : Nat} (hJ : AbidesFrom B J) {s : β} {W W' : World} (h : J s W) (hb : Below W.heap.size W W') : J s W' :=
  hJ s W W' none h ⟨hb.os, hb.tape, hb.output, hb.size, fun k hk _ => hb.block k hk⟩ (fun r e => by cases e)
set_option maxHeartbeats 1000000 in
theorem ptaken_in (n : Nat) (a : Option Addr) (len cap : Nat) (w : World) :
    CallsIn Fence.wide n Try.prog 31 #[.slice a len cap] w fun e w' => e = .returned (.func (.func 35) #[] #[.pointer (some ⟨w.heap.size, 0, none⟩)]) ∧ w' = w.alloc (.cells #[.slice a len cap] 25) := by
  refine callsIn_of_wp Try.func31 rfl trivial ?_ rfl
  simp only [Try.ntmps31, List.size_toArray, List.length_cons, List.length_nil, Nat.reduceAdd, Nat.reduceSub, Array.replicate_succ, Array.replicate_zero, List.push_toArray, List.append_toArray, List.nil_append, List.cons_append]
  gi_wp2
  go_ret
  exact ⟨rfl, rfl⟩
set_option maxRecDepth 100000 in
set_option maxHeartbeats 2000000 in
theorem ptaken1_in (n : Nat) (hn : 1 ≤ n) (lp Bs : Nat) (w₀ : World) (v : Value) (zs : List En) (hm : MaysN zs) (hv : EnsAt w₀ v zs) (J Jx : List Ok → World → Prop)
    (W : World) (hW : Below w₀.heap.size w₀ W) (hJ : AbidesFrom W.heap.size J)
    (hY : ∀ pre x W1, J pre W1 → pre.length < (tk zs).length → YieldAt Fence.wide (n - 1) Try.prog lp #[.agg (eC x.1)] W1 fun e W' =>
      (e = .returned (.bool true) ∧ J (pre ++ [x]) W' ∧ Below w₀.heap.size W1 W') ∨ (e = .returned (.bool false) ∧ Jx (pre ++ [x]) W'))
    (hBs : W.cell? ⟨Bs, 0, none⟩ = some v) (h0 : J [] W) :
    CallsIn Fence.wide n Try.prog 35 #[.func (.yield lp) #[] #[], .pointer (some ⟨Bs, 0, none⟩)] W fun e W' => (∃ v, e = .returned v) ∧
      ((∃ ys, ys = tk zs ∧ J ys W') ∨ (∃ pre, pre <+: tk zs ∧ Jx pre W')) := by
  obtain ⟨al, cap, rfl, hcap, hmx, hc⟩ := hv
  have HC := Lib.hid hc
  have HM := Lib.hid hm
  have HJ := Lib.hid hJ
  have HY := Lib.hid hY
  have hml : zs.length ≤ 9223372036854775807 := by unfold maxLen at hmx; omega
  clear hc hm hJ hY
  refine callsIn_of_wp Try.func35 rfl trivial ?_ rfl
  simp only [Try.ntmps35, List.size_toArray, List.length_cons, List.length_nil, Nat.reduceAdd, Nat.reduceSub, Array.replicate_succ, Array.replicate_zero, List.push_toArray, List.append_toArray, List.nil_append, List.cons_append]
  gi_wp2
  gi_loopw [7] (fun i wr => ∃ k : Nat, k ≤ zs.length ∧ i = .int .i64 k ∧ Hid (J (tk (zs.take k)) wr) ∧ Below w₀.heap.size w₀ wr) (fun i _ => zs.length - (intOf i).toNat)
  case atStart => exact ⟨0, Nat.zero_le _, rfl, Lib.hid h0, hW⟩
  case round =>
    obtain ⟨k, hk, rfl, HJs, hnx⟩ := hrel
    by_cases hlt : k < zs.length
    · obtain ⟨e, he⟩ : ∃ t, zs[k]? = some t := ⟨_, List.getElem?_eq_getElem hlt⟩
      obtain ⟨g, off, rfl, hg, l0, l1, l2, l3⟩ := HC.out k e he
      have hme := HM.out e (List.mem_of_getElem? he)
      have HK := Lib.hid (fun W => pcheck_any e W hme)
      have hi2 : (k : Int) < (zs.length : Int) := by omega
      have c0 := (hnx.cell (p := ⟨g, off + k * 4, none⟩) hg).trans l0
      have c1 := (hnx.cell (p := ⟨g, off + k * 4 + 1, none⟩) hg).trans l1
      have c2 := (hnx.cell (p := ⟨g, off + k * 4 + 2, none⟩) hg).trans l2
      have c3 := (hnx.cell (p := ⟨g, off + k * 4 + 3, none⟩) hg).trans l3
      have HX := Lib.hid (EAt.made wr e 29)
      have HBX := Lib.hid ((Below.refl wr.heap.size wr).alloc (Nat.le_refl _) (.cells (eC e) 29))
      have HN := Lib.hid hnx
      clear l0 l1 l2 l3 hnx
      unfold eC at HK HX HBX
      by_cases hck : ckN e = 0
      · rw [hck] at HK
        have HT := Lib.hid (tk_lt zs k e he ⟨hme, hck⟩)
        have HE := Lib.hid (And.intro he (And.intro hme hck))
        clear he hme hck
        gi_wp2
        refine ⟨trivial, (callsIn_wide.2 (HK.out _)).mono ?_⟩
        rintro x w1 ⟨rfl, hb⟩
        obtain ⟨k0, k1, k2, k3⟩ := EAt.later HX.out hb
        have hb1 := HBX.out.trans (hb.mono HBX.out.size)
        have HN1 := Lib.hid (HN.out.trans (hb1.mono HN.out.size))
        have hJ1 := abides HJ.out HJs.out hb1
        obtain ⟨fn, tmps, assign, body, hy, hR⟩ := HY.out _ ⟨e, HE.out.2⟩ w1 hJ1 HT.out
        dsimp only [eC] at hy
        have HR := Lib.hid hR
        have HK1 := Lib.hid (tk_yes (zs.take k) e HE.out.2)
        have HP1 := Lib.hid (tk_pre zs (k + 1))
        rw [take_one zs k e HE.out.1] at HP1
        have HT1 := Lib.hid (take_one zs k e HE.out.1)
        clear hb hb1 hJ1 hR HX HBX HN HJs HT c0 c1 c2 c3
        gi_wp2
        refine HR.out.mono ?_
        rintro x W3 (⟨rfl, hJ3, hk3⟩ | ⟨rfl, hJx3⟩)
        · have HJ3 := Lib.hid hJ3
          have HN3 := Lib.hid (HN1.out.trans hk3)
          clear hJ3 hk3
          gi_wp2
          go_roundw
          case rel => exact ⟨k + 1, by omega, by go_num, Lib.hid (by rw [HT1.out, HK1.out]; exact HJ3.out), HN3.out⟩
          case measure => simp [intOf]; omega
        · have HJ3 := Lib.hid hJx3
          clear hJx3
          gi_wp2
          refine bodyPost_ret (results_none rfl _ _ _) rfl ?_
          exact ⟨⟨_, rfl⟩, .inr ⟨_, by rw [← HK1.out]; exact HP1.out, HJ3.out⟩⟩
      · obtain ⟨r, hr⟩ : ∃ r, ckN e = r := ⟨_, rfl⟩
        have HK1 := Lib.hid (tk_no (zs.take k) e hck)
        have HT1 := Lib.hid (take_one zs k e he)
        rw [hr] at HK hck
        have hne : (r == 0) = false := by simpa using hck
        clear he hme hck hr
        gi_wp2
        refine ⟨trivial, (callsIn_wide.2 (HK.out _)).mono ?_⟩
        rintro x w1 ⟨rfl, hb⟩
        have hb1 := HBX.out.trans (hb.mono HBX.out.size)
        have HN1 := Lib.hid (HN.out.trans (hb1.mono HN.out.size))
        have HJ1 := Lib.hid (abides HJ.out HJs.out hb1)
        clear hb hb1 HX HBX HN HJs c0 c1 c2 c3
        gi_wp2
        refine ⟨fun _ h => (by cases h), ?_⟩
        gi_wp2
        go_roundw
        case rel => exact ⟨k + 1, by omega, by go_num, Lib.hid (by rw [HT1.out, HK1.out]; exact HJ1.out), HN1.out⟩
        case measure => simp [intOf]; omega
    · obtain rfl : k = zs.length := by omega
      have hJ0 := HJs.out
      rw [List.take_length] at hJ0
      have HJ0 := Lib.hid hJ0
      clear hJ0 HJs
      gi_wp2
      go_end0
      exact ⟨⟨_, rfl⟩, .inl ⟨_, rfl, HJ0.out⟩⟩
/-- What taken hands: a value that hands on just the entries that Check takes. -/
theorem ptaken_stops (n : Nat) (hn : 1 ≤ n) (Bs : Nat) (w₀ w : World) (v : Value) (zs : List En) (hm : MaysN zs) (hv : EnsAt w₀ v zs) (hw : Below w₀.heap.size w₀ w) (hBs : w.cell? ⟨Bs, 0, none⟩ = some v) :
    SeqStopsK Fence.wide n Try.prog 35 #[.pointer (some ⟨Bs, 0, none⟩)] (fun x : Ok => #[.agg (eC x.1)]) (Below w₀.heap.size) (fun ys => ys = tk zs) (fun pre => pre <+: tk zs) (tk zs).length w := fun l J Jx W hW hJ _ hY h0 =>
  ptaken1_in n hn l Bs w₀ v zs hm hv J Jx W (hw.trans (hW.mono hw.size)) hJ hY ((hW.cell (p := ⟨Bs, 0, none⟩) (ecell_lt hBs)).trans hBs) h0
end Go.Proofs.Ythaembnfdkcheaa
