/- A block that holds a chart and nothing else; results in cells; strings.Clone; kept. -/
import Derived.Test.YtleicghfcffblaaMH
import Derived.Test.YtleicghfcffblaaRc
import Derived.Deep.RegionLawGrows
import Derived.Deep.RegionWith
import Derived.Deep.DeepCutAuto
import Derived.Deep.CutRange
import Derived.Deep.RegionHeld3
namespace Go.Proofs.Ytleicghfcffblaa
open Go.RowKit
set_option maxRecDepth 20000
set_option linter.unusedVariables false
set_option linter.unusedSimpArgs false
theorem below_oneC (w : World) (o : Obj) : Below w.heap.size w (w.alloc o) := (Below.refl _ _).alloc (Nat.le_refl _) o
/-- A block that holds a chart, and nothing else. -/
def One (w : World) (g : Nat) (x : Value) : Prop := ∃ T, w.heap[g]? = some (.cells #[x] T (0, 0))
theorem One.cell {w : World} {g : Nat} {x : Value} (h : One w g x) : w.cell? ⟨g, 0, none⟩ = some x := by
  obtain ⟨T, h⟩ := h
  simp [World.cell?, h]
theorem One.frz {w : World} {g : Nat} {x : Value} (h : One w g x) : w.frozen? ⟨g, 0, none⟩ = false := by
  obtain ⟨T, h⟩ := h
  simp [World.frozen?, h]
theorem One.lt {w : World} {g : Nat} {x : Value} (h : One w g x) : g < w.heap.size := vcell_lt h.cell
theorem One.below {w w' : World} {g : Nat} {x : Value} (h : One w g x) (hb : Below w.heap.size w w') : One w' g x := by
  have hl := h.lt
  obtain ⟨T, h⟩ := h
  exact ⟨T, (hb.block g hl).trans h⟩
theorem One.alloc {w : World} {g : Nat} {x : Value} (h : One w g x) (o : Obj) : One (w.alloc o) g x := h.below (below_oneC w o)
theorem one_new (w : World) (x : Value) (T : TypeId) : One (w.alloc (.cells #[x] T)) w.heap.size x := ⟨T, heap_new w _⟩
theorem One.set {w : World} {g : Nat} {x : Value} (h : One w g x) (x' : Value) : One (w.setCell ⟨g, 0, none⟩ x') g x' := by
  obtain ⟨T, h⟩ := h
  exact ⟨T, by simp [World.setCell, Array.getElem?_modify, h]⟩
theorem One.set_other {w : World} {g g' : Nat} {x : Value} (h : One w g x) (hn : g ≠ g') (x' : Value) : One (w.setCell ⟨g', 0, none⟩ x') g x := by
  obtain ⟨T, h⟩ := h
  exact ⟨T, (Below.heap_setCell _ _ _ _ (by simpa using hn)).trans h⟩
/-- A row of items lies in no such block. -/
theorem ItsAt.set {w : World} {g : Nat} {x v : Value} {l : List It} (h : ItsAt w v l) (ho : One w g x) (x' : Value) : ItsAt (w.setCell ⟨g, 0, none⟩ x') v l := by
  obtain ⟨T, hh⟩ := ho
  obtain ⟨a, cap, rfl, h1, h2, hc⟩ := h
  refine ⟨a, cap, rfl, h1, h2, fun k t ht => ?_⟩
  obtain ⟨g', off, ha, hg, c0, c1⟩ := hc k t ht
  have hn : g' ≠ g := by
    rintro rfl
    simp [World.cell?, hh] at c1
  have hb : (w.setCell ⟨g, 0, none⟩ x').heap[g']? = w.heap[g']? := Below.heap_setCell _ _ _ _ (by simpa using hn)
  exact ⟨g', off, ha, by simpa using hg, (World.cell?_of_block (a := ⟨g', off + k * 2, none⟩) hb).trans c0, (World.cell?_of_block (a := ⟨g', off + k * 2 + 1, none⟩) hb).trans c1⟩
theorem ChS.set {w : World} {g : Nat} {x s : Value} {l : List It} (h : ChS w s l) (ho : One w g x) (x' : Value) : ChS (w.setCell ⟨g, 0, none⟩ x') s l := ⟨h.its.set ho x', h.good⟩
theorem chart_size : (Try.prog.info? 27).map (·.size) = some 1 := by kernel_rfl
theorem one_load (w : World) (g : Nat) (ty : TypeId) (x : Value) (d : TypeDesc) (c0 : w.cell? ⟨g, 0, none⟩ = some x)
    (hu : Try.prog.underlying ty = some d) (hd : (match d with | .struct _ | .array _ _ => true | _ => false) = true) (hi : (Try.prog.info? ty).map (·.size) = some 1) :
    (loadVar ty ⟨g, 0, none⟩).run Try.prog w = .ok (.agg #[x]) w := by
  have hl : (loadCells ⟨g, 0, none⟩ 1).run Try.prog w = .ok #[x] w :=
    run_loadCells_list (P := Try.prog) w ⟨g, 0, none⟩ [x] (fun j v hv => by
      have hadd : (⟨g, 0, none⟩ : Addr).add j = ⟨g, j, none⟩ := by unfold Addr.add; split <;> simp_all
      rw [hadd]
      match j, hv with
      | 0, hv => simp at hv; rw [c0, hv]
      | j + 1, hv => simp at hv)
  cases hq : Try.prog.info? ty with
  | none => simp [hq] at hi
  | some i =>
    have hs : i.size = 1 := by simpa [hq] using hi
    have hagg : (isAgg ty).run Try.prog w = .ok true w := by
      unfold isAgg
      rw [Sem.run_bind, run_underlying hu w]
      cases d <;> simp_all
    simp [loadVar, Sem.run_bind, hagg, sizeOf, typeInfo, hq, hs, hl]
/-- A chart in a cell, and a value, as results. -/
theorem results_o2 {fn : Func} {p q : Tmp} {ty : TypeId} (h : fn.results = #[.cell p ty, .tmp q]) (tmps : Array Value) (w : World) (g : Nat) (x v : Value) (d : TypeDesc) (hp : tmps.getD p undef = .pointer (some ⟨g, 0, none⟩)) (hq : tmps.getD q undef = v) (c0 : w.cell? ⟨g, 0, none⟩ = some x)
    (hu : Try.prog.underlying ty = some d) (hd : (match d with | .struct _ | .array _ _ => true | _ => false) = true) (hi : (Try.prog.info? ty).map (·.size) = some 1) :
    (results fn tmps).run Try.prog w = .ok (.tuple #[.agg #[x], v]) w := by
  have hl := one_load w g ty x d c0 hu hd hi
  have hp' : tmps[p]?.getD undef = .pointer (some ⟨g, 0, none⟩) := by simpa using hp
  have hq' : tmps[q]?.getD undef = v := by simpa using hq
  simp [results, h, hp', hq', asAddr, hl]
/-- A chart in a cell, as the one result. -/
theorem results_o1 {fn : Func} {p : Tmp} {ty : TypeId} (h : fn.results = #[.cell p ty]) (tmps : Array Value) (w : World) (g : Nat) (x : Value) (d : TypeDesc) (hp : tmps.getD p undef = .pointer (some ⟨g, 0, none⟩)) (c0 : w.cell? ⟨g, 0, none⟩ = some x)
    (hu : Try.prog.underlying ty = some d) (hd : (match d with | .struct _ | .array _ _ => true | _ => false) = true) (hi : (Try.prog.info? ty).map (·.size) = some 1) :
    (results fn tmps).run Try.prog w = .ok (.agg #[x]) w := by
  have hl := one_load w g ty x d c0 hu hd hi
  have hp' : tmps[p]?.getD undef = .pointer (some ⟨g, 0, none⟩) := by simpa using hp
  simp [results, h, hp', asAddr, hl]
/-- An item in a cell, as the one result. -/
theorem results_ct1C {fn : Func} {p : Tmp} {ty : TypeId} (h : fn.results = #[.cell p ty]) (tmps : Array Value) (w : World) (g : Nat) (x y : Value) (d : TypeDesc) (hp : tmps.getD p undef = .pointer (some ⟨g, 0, none⟩)) (c0 : w.cell? ⟨g, 0, none⟩ = some x) (c1 : w.cell? ⟨g, 1, none⟩ = some y)
    (hu : Try.prog.underlying ty = some d) (hd : (match d with | .struct _ | .array _ _ => true | _ => false) = true) (hi : (Try.prog.info? ty).map (·.size) = some 2) :
    (results fn tmps).run Try.prog w = .ok (.agg #[x, y]) w := by
  have hl := two_load w g ty x y d c0 c1 hu hd hi
  have hp' : tmps[p]?.getD undef = .pointer (some ⟨g, 0, none⟩) := by simpa using hp
  simp [results, h, hp', asAddr, hl]
theorem sclone_anyC (s : ByteArray) (w : World) (hs : s.size ≤ 281474976710656) : Calls Try.prog 75 #[.string s] w fun e w' => e = .returned (.string s) ∧ Below w.heap.size w w' := by
  have HC := Lib.hid (fun W => clo_any s W hs)
  go_enter Try.func75, Try.ntmps75
  go_wp2_with fail
  refine (HC.out _).mono ?_
  rintro e w1 ⟨rfl, hb⟩
  have HB := Lib.hid hb
  clear hb
  go_wp2_with fail
  go_ret
  exact ⟨rfl, HB.out⟩
set_option maxHeartbeats 1000000 in
theorem kept_any (id : Nat) (t : ByteArray) (w : World) (hs : t.size ≤ 281474976710656) : Calls Try.prog 55 #[.agg #[.int .u64 id, .string t]] w fun e w' => e = .returned (.agg #[.int .u64 id, .string t]) ∧ Below w.heap.size w w' := by
  have HC := Lib.hid (fun W => sclone_anyC t W hs)
  go_enter Try.func55, Try.ntmps55
  go_wp2_with fail
  go_region_with (refine (HC.out _).mono ?_; rintro e w1 ⟨rfl, hb⟩; have b0 : w1.cell? ⟨w.heap.size, 0, none⟩ = some (.int .u64 id) := (hb.cell (p := ⟨w.heap.size, 0, none⟩) (by simp; omega)).trans (by simp [go_sem]); have b1 : w1.cell? ⟨w.heap.size, 1, none⟩ = some (.string t) := (hb.cell (p := ⟨w.heap.size, 1, none⟩) (by simp; omega)).trans (by simp [go_sem]); have z0 : w1.cell? ⟨w.heap.size + 1, 0, none⟩ = some (.int .u64 0) := (hb.cell (p := ⟨w.heap.size + 1, 0, none⟩) (by simp)).trans (by simp [go_sem]); have z1 : w1.cell? ⟨w.heap.size + 1, 1, none⟩ = some (.string { data := #[] }) := (hb.cell (p := ⟨w.heap.size + 1, 1, none⟩) (by simp)).trans (by simp [go_sem]); have f0 : w1.frozen? ⟨w.heap.size + 1, 0, none⟩ = false := (hb.frozen (p := ⟨w.heap.size + 1, 0, none⟩) (by simp)).trans (by simp [go_sem]); have f1 : w1.frozen? ⟨w.heap.size + 1, 1, none⟩ = false := (hb.frozen (p := ⟨w.heap.size + 1, 1, none⟩) (by simp)).trans (by simp [go_sem]); have hB : Below w.heap.size w w1 := (by go_grown : Below w.heap.size w _).trans (hb.mono (by simp; omega)); have hl : w.heap.size + 1 < w1.heap.size := vcell_lt z0)
  all_goals
    go_wp2_with fail
    refine bodyPost_ret (results_ct1C rfl _ _ (w.heap.size + 1) (.int .u64 id) (.string t) _ rfl (by simp [go_sem, z0, z1]) (by simp [go_sem, z0, z1]) Try.underlying58 rfl pit_size) rfl ⟨rfl, (hB.setCell (p := ⟨w.heap.size + 1, 0, none⟩) (by simp) _).setCell (p := ⟨w.heap.size + 1, 1, none⟩) (by simp) _⟩
end Go.Proofs.Ytleicghfcffblaa
