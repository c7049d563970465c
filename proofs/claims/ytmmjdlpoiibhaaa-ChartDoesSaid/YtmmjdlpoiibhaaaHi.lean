/- slices.Insert of one item into a row of one's own. -/
import Derived.Test.YtmmjdlpoiibhaaaHf
import Derived.Lib.Overlaps
import Derived.Laws.Externs
import Derived.Laws.CopyOwn
namespace Go.Proofs.Ytmmjdlpoiibhaaa
open Go.RowKit
set_option maxRecDepth 20000
set_option linter.unusedVariables false
set_option linter.unusedSimpArgs false
/-- A copy within a row, or to it, of items. -/
theorem copy_run2 (W : World) (g o dLen dCap : Nat) (a : Addr) (sLen sCap : Nat) (cur : List Value) (T : TypeId) (cs : List Value) (hg : W.heap[g]? = some (.cells cur.toArray T (0, 0))) (hn : cs.length = Nat.min sLen dLen * 2)
    (hsrc : ∀ j v, cs[j]? = some v → W.cell? (a.add j) = some v) (hfit : o + cs.length ≤ cur.length) (h1 : ∀ v ∈ cs, v.oneCell' = true) :
    ∃ W', (∀ ty, (Builtin.copy_ #[24, 24] ty #[.slice (some ⟨g, o, none⟩) dLen dCap, .slice (some a) sLen sCap]).run Try.prog W = .ok (goInt (Nat.min sLen dLen)) W') ∧ W'.heap[g]? = some (.cells (splice cur o cs).toArray T (0, 0)) ∧ W.grownBy W' (some g) := by
  have hl := run_loadCells_list (P := Try.prog) W a cs hsrc
  have hst := run_storeCells_at Try.prog g o T cs 0 cur.toArray W hg (by simpa using hfit) h1
  obtain ⟨i0, hi, hz0, hz1, hz2⟩ := info_parts infoPit
  have hu := Try.underlying24
  refine ⟨W.setRow g (cur.take o ++ (cs ++ cur.drop (o + cs.length))).toArray, fun ty => ?_, ?_, ?_⟩
  · have hn' : Nat.min sLen dLen * 2 = cs.length := hn.symm
    simp only [Nat.add_zero] at hst
    rw [show cur.take o ++ (cs ++ cur.drop (o + cs.length)) = cur.toArray.toList.take o ++ cs ++ cur.toArray.toList.drop (o + cs.length) by simp]
    simp [Builtin.copy_, run_underlying hu, Builtin.lenOf, Builtin.firstCells, sizeOf, typeInfo, hi, hz1, hn', hl, hst]
  · exact setRow_heap W g _ _ T _ hg
  · exact ⟨rfl, rfl, rfl, by simp [World.setRow], fun k hk hne => setRow_other W g k _ (fun e => hne (by rw [e]))⟩
theorem size_item (w : World) : (sizeOf 52).run Try.prog w = .ok 2 w := by
  obtain ⟨i0, hi, hz0, hz1, hz2⟩ := info_parts infoPit
  simp [sizeOf, typeInfo, hi, hz1]
/-- The run of slices.overlaps at two slices in two blocks. -/
theorem over_run (w : World) (vb b oB lb cb : Nat) (hvb : vb ≠ b) (x y : Value) (tA tB : TypeId) (cur : Array Value) (hA : w.heap[vb]? = some (.cells #[x, y] tA (0, 0))) (hB : w.heap[b]? = some (.cells cur tB (0, 0))) (hc : cur.size ≠ 0) :
    (callFunc 52 #[.slice (some ⟨vb, 0, none⟩) 1 1, .slice (some ⟨b, oB, none⟩) lb cb]).run Try.prog w = .ok (.value (.bool false)) w := by
  rw [run_callFunc_extern Try.func52 (by kernel_rfl) (by kernel_rfl) (by kernel_rfl) (e := Extern.SlicesOverlaps.overlaps #[24, 24] #[4]) (by kernel_rfl),
    Lib.run_overlaps_apart w 24 4 52 Try.underlying24 2 size_item ⟨vb, 0, none⟩ ⟨b, oB, none⟩ 1 1 lb cb hvb tA tB 2 cur.size (by simp [World.shape?, hA]) (by simp [World.shape?, hB]) hc (by simp [World.frozen?, hA]) (by simp [World.frozen?, hA])]
  rfl
theorem wpList_copy_known {w : World} {ops : Array Oper} {rest : List Oper} {o : Oper} {a : Act} {Q : Exit → Act → World → Prop} (hgd : o.guard = none) (d s : Operand) (t t' : TypeId)
    (ho : o.op = .call { callee := .builtin .copy, args := #[d, s], argTypes := #[t, t'] }) (v u : Value) (hd : a.eval d = v) (hs : a.eval s = u) {v' : Value} {w' : World}
    (hr : (Builtin.copy_ #[t, t'] o.type #[v, u]).run Try.prog w = .ok v' w') (h : wpList Try.prog ops Q rest (a.put o.dst v') w') : wpList Try.prog ops Q (o :: rest) a w := by
  refine wpList_plain hgd fun K hK => ?_
  unfold Oper.wp execOp
  simp only [ho, resolve, invoke, builtin, Sem.run_bind, Sem.run_pure, Result.andThen_ok, List.map_toArray, List.map_cons, List.map_nil, hd, hs, hr]
  exact hK _ _ h
theorem step_copy_known {ops : Array Oper} {o : Oper} {a : Act} {w : World} {K : Act → World → Prop} {Q : Exit → Act → World → Prop} {E : Prop}
    (hg : o.guard = none) (d x : Operand) (dT sT : TypeId) (hop : o.op = Op.call { callee := Callee.builtin Builtin.copy, args := #[d, x], argTypes := #[dT, sT] })
    (v u : Value) (hd : a.eval d = v) (hx : a.eval x = u) {v' : Value} {w' : World} (hr : (Builtin.copy_ #[dT, sT] o.type #[v, u]).run Try.prog w = .ok v' w') (hK : K (a.put o.dst v') w') :
    if Region.wanted o (yielded ops a.tmps) = true then Oper.wp Try.prog o a w K Q else E := by
  have hw : Region.wanted o (yielded ops a.tmps) = true := by simp [Region.wanted, hg]
  rw [if_pos hw]
  unfold Oper.wp
  simp [execOp, hop, resolve, invoke, builtin, hd, hx, hr, Result.andThen]
  exact hK
def insI (l : List It) (i : Nat) (t : It) : List It := l.take i ++ t :: l.drop i
def InsEnd (l : List It) (i : Nat) (t : It) (B : Nat) (s : Value) (w : World) (e : Ending) (w' : World) : Prop := ∃ v', e = .returned v' ∧ OwnIt w' B 52 v' (insI l i t) ∧ w.grownBy w' s.ownBlock
set_option maxHeartbeats 1000000 in
theorem ins_end (s : Value) (l : List It) (t : It) (B vb : Nat) (w : World) (ho : OwnIt w B 52 s l) (hx : ItsAt w (.slice (some ⟨vb, 0, none⟩) 1 1) [t]) (hl : l.length ≤ 5000) (hB : B ≤ w.heap.size) :
    Calls Try.prog 37 #[s, .int .i64 l.length, .slice (some ⟨vb, 0, none⟩) 1 1] w (InsEnd l l.length t B s w) := by
  obtain ⟨v5, w5, hr5, ho5, hg5⟩ := itappend_run w B 24 52 24 _ Try.underlying24 infoPit rfl s (.slice (some ⟨vb, 0, none⟩) 1 1) l [t] ho hx (by simp; omega) hB
  have HE : Hid (∀ e, e = Ending.returned v5 → InsEnd l l.length t B s w e w5) := Lib.hid (fun e he => ⟨v5, he, by unfold insI; rw [List.take_length, List.drop_length]; exact ho5, hg5⟩)
  have hee : ((l.length : Int) == (l.length : Int)) = true := by simp
  rcases ho.form with ⟨rfl, rfl⟩ | ⟨g, cap, rfl, _, _, hle, hm, _⟩
  · clear ho hx ho5 hg5
    go_enter Try.func37, Try.ntmps37
    go_wp2_with (first | (at_builtin; refine Lib.wpList_append_run _ rfl _ _ _ _ rfl _ _ rfl rfl _ _ hr5 ?_) | fail)
    go_ret
    exact HE.out _ rfl
  · unfold maxLen at hm
    generalize l.length = n at *
    have hn : (n : Int) ≤ (cap : Int) := by omega
    clear ho hx ho5 hg5
    by_cases hc : cap = n
    · subst hc
      go_enter Try.func37, Try.ntmps37
      go_wp2_with (first | (at_builtin; refine Lib.wpList_append_run _ rfl _ _ _ _ rfl _ _ rfl rfl _ _ hr5 ?_) | fail)
      go_ret
      exact HE.out _ rfl
    · go_enter Try.func37, Try.ntmps37
      go_wp2_with (first | (at_builtin; refine Lib.wpList_append_run _ rfl _ _ _ _ rfl _ _ rfl rfl _ _ hr5 ?_) | fail)
      go_ret
      exact HE.out _ rfl
end Go.Proofs.Ytmmjdlpoiibhaaa
