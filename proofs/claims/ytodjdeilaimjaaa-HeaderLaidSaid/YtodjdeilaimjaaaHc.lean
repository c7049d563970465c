/- Contracts of Check, the program's: it computes what its plain function says. -/
import Derived.Test.YtodjdeilaimjaaaHb
namespace Go.Proofs.Ytodjdeilaimjaaa
open Go.RowKit
set_option linter.unusedVariables false
theorem cell_blk {w : World} {g : Nat} {cs : Array Value} {t : TypeId} {fr : Nat × Nat} (h : w.heap[g]? = some (.cells cs t fr)) (i : Nat) : w.cell? ⟨g, i, none⟩ = cs[i]? := by simp [World.cell?, h]
theorem cellb_lt {w : World} {a : Addr} {v : Value} (h : w.cell? a = some v) : a.block < w.heap.size := by
  rcases Nat.lt_or_ge a.block w.heap.size with h' | h'
  · exact h'
  · simp [World.cell?, Array.getElem?_eq_none h'] at h
theorem cellb_later {w w' : World} {a : Addr} {v : Value} (hb : Below w.heap.size w w') (h : w.cell? a = some v) : w'.cell? a = some v := (hb.cell (p := a) (cellb_lt h)).trans h
/-- A header's cells; a header in a block. -/
def cH (h : Hd) : Array Value := #[.int .u64 h.rf, .int .u64 h.rl, .int .u64 h.mf, .int .u64 h.ml, .int .u64 h.lf, .int .u64 h.ll, .int .u64 h.df, .int .u64 h.dl, .int .u64 h.ad, .int .u64 h.en, .int .u64 h.co, .bool h.cl, .int .u8 h.inn, .int .u8 h.out, .int .u8 h.knd, .int .i64 h.z0, .int .i64 h.z1, .int .i64 h.lo0, .int .i64 h.la0, .int .i64 h.lo1, .int .i64 h.la1, .int .i64 h.zm, .int .i64 h.lon, .int .i64 h.lat]
def HAt (w : World) (b : Nat) (T : TypeId) (h : Hd) : Prop := w.heap[b]? = some (.cells (cH h) T (0, 0))
theorem HAt.lt {w : World} {b : Nat} {T : TypeId} {h : Hd} (H : HAt w b T h) : b < w.heap.size := by
  rcases Nat.lt_or_ge b w.heap.size with h' | h'
  · exact h'
  · unfold HAt at H; rw [Array.getElem?_eq_none h'] at H; cases H
theorem HAt.below {w w' : World} {B b : Nat} {T : TypeId} {h : Hd} (H : HAt w b T h) (hb : Below B w w') (hB : b < B) : HAt w' b T h := (hb.block b hB).trans H
theorem HAt.later {w w' : World} {b : Nat} {T : TypeId} {h : Hd} (H : HAt w b T h) (hb : Below w.heap.size w w') : HAt w' b T h := H.below hb H.lt
theorem HAt.made (w : World) (h : Hd) (T : TypeId) : HAt (w.alloc (.cells (cH h) T)) w.heap.size T h := heap_alloc_new w _
theorem at0 {w : World} {b : Nat} {T : TypeId} {h : Hd} (H : HAt w b T h) : w.cell? ⟨b, 0, none⟩ = some (.int .u64 h.rf) := cell_blk H 0
theorem at1 {w : World} {b : Nat} {T : TypeId} {h : Hd} (H : HAt w b T h) : w.cell? ⟨b, 1, none⟩ = some (.int .u64 h.rl) := cell_blk H 1
theorem at2 {w : World} {b : Nat} {T : TypeId} {h : Hd} (H : HAt w b T h) : w.cell? ⟨b, 2, none⟩ = some (.int .u64 h.mf) := cell_blk H 2
theorem at3 {w : World} {b : Nat} {T : TypeId} {h : Hd} (H : HAt w b T h) : w.cell? ⟨b, 3, none⟩ = some (.int .u64 h.ml) := cell_blk H 3
theorem at4 {w : World} {b : Nat} {T : TypeId} {h : Hd} (H : HAt w b T h) : w.cell? ⟨b, 4, none⟩ = some (.int .u64 h.lf) := cell_blk H 4
theorem at5 {w : World} {b : Nat} {T : TypeId} {h : Hd} (H : HAt w b T h) : w.cell? ⟨b, 5, none⟩ = some (.int .u64 h.ll) := cell_blk H 5
theorem at6 {w : World} {b : Nat} {T : TypeId} {h : Hd} (H : HAt w b T h) : w.cell? ⟨b, 6, none⟩ = some (.int .u64 h.df) := cell_blk H 6
theorem at7 {w : World} {b : Nat} {T : TypeId} {h : Hd} (H : HAt w b T h) : w.cell? ⟨b, 7, none⟩ = some (.int .u64 h.dl) := cell_blk H 7
theorem at8 {w : World} {b : Nat} {T : TypeId} {h : Hd} (H : HAt w b T h) : w.cell? ⟨b, 8, none⟩ = some (.int .u64 h.ad) := cell_blk H 8
theorem at9 {w : World} {b : Nat} {T : TypeId} {h : Hd} (H : HAt w b T h) : w.cell? ⟨b, 9, none⟩ = some (.int .u64 h.en) := cell_blk H 9
theorem at10 {w : World} {b : Nat} {T : TypeId} {h : Hd} (H : HAt w b T h) : w.cell? ⟨b, 10, none⟩ = some (.int .u64 h.co) := cell_blk H 10
theorem at11 {w : World} {b : Nat} {T : TypeId} {h : Hd} (H : HAt w b T h) : w.cell? ⟨b, 11, none⟩ = some (.bool h.cl) := cell_blk H 11
theorem at12 {w : World} {b : Nat} {T : TypeId} {h : Hd} (H : HAt w b T h) : w.cell? ⟨b, 12, none⟩ = some (.int .u8 h.inn) := cell_blk H 12
theorem at13 {w : World} {b : Nat} {T : TypeId} {h : Hd} (H : HAt w b T h) : w.cell? ⟨b, 13, none⟩ = some (.int .u8 h.out) := cell_blk H 13
theorem at14 {w : World} {b : Nat} {T : TypeId} {h : Hd} (H : HAt w b T h) : w.cell? ⟨b, 14, none⟩ = some (.int .u8 h.knd) := cell_blk H 14
theorem at15 {w : World} {b : Nat} {T : TypeId} {h : Hd} (H : HAt w b T h) : w.cell? ⟨b, 15, none⟩ = some (.int .i64 h.z0) := cell_blk H 15
theorem at16 {w : World} {b : Nat} {T : TypeId} {h : Hd} (H : HAt w b T h) : w.cell? ⟨b, 16, none⟩ = some (.int .i64 h.z1) := cell_blk H 16
theorem at17 {w : World} {b : Nat} {T : TypeId} {h : Hd} (H : HAt w b T h) : w.cell? ⟨b, 17, none⟩ = some (.int .i64 h.lo0) := cell_blk H 17
theorem at18 {w : World} {b : Nat} {T : TypeId} {h : Hd} (H : HAt w b T h) : w.cell? ⟨b, 18, none⟩ = some (.int .i64 h.la0) := cell_blk H 18
theorem at19 {w : World} {b : Nat} {T : TypeId} {h : Hd} (H : HAt w b T h) : w.cell? ⟨b, 19, none⟩ = some (.int .i64 h.lo1) := cell_blk H 19
theorem at20 {w : World} {b : Nat} {T : TypeId} {h : Hd} (H : HAt w b T h) : w.cell? ⟨b, 20, none⟩ = some (.int .i64 h.la1) := cell_blk H 20
theorem at21 {w : World} {b : Nat} {T : TypeId} {h : Hd} (H : HAt w b T h) : w.cell? ⟨b, 21, none⟩ = some (.int .i64 h.zm) := cell_blk H 21
theorem at22 {w : World} {b : Nat} {T : TypeId} {h : Hd} (H : HAt w b T h) : w.cell? ⟨b, 22, none⟩ = some (.int .i64 h.lon) := cell_blk H 22
theorem at23 {w : World} {b : Nat} {T : TypeId} {h : Hd} (H : HAt w b T h) : w.cell? ⟨b, 23, none⟩ = some (.int .i64 h.lat) := cell_blk H 23
theorem ck_secs (h : Hd) (e : SecsB h = false) : ckH h = 8 := by unfold ckH; rw [if_neg (by simp [e])]
theorem ck_kind (h : Hd) (e : SecsB h = true) (k : KindB h = false) : ckH h = 14 := by unfold ckH; rw [if_pos e, if_neg (by simp [k])]
theorem ck_zooms (h : Hd) (e : SecsB h = true) (k : KindB h = true) (z : ZoomsB h = false) : ckH h = 8 := by unfold ckH; rw [if_pos e, if_pos k, if_neg (by simp [z])]
theorem ck_deg (h : Hd) (e : SecsB h = true) (k : KindB h = true) (z : ZoomsB h = true) (d : DegB h = false) : ckH h = 8 := by unfold ckH; rw [if_pos e, if_pos k, if_pos z, if_neg (by simp [d])]
theorem ck_ok (h : Hd) (e : SecsB h = true) (k : KindB h = true) (z : ZoomsB h = true) (d : DegB h = true) : ckH h = 0 := by unfold ckH; rw [if_pos e, if_pos k, if_pos z, if_pos d]
/-- How many of the sections fit, from the first one on. -/
def SecsUp (h : Hd) (k : Nat) : Prop := (0 < k → secB h.rf h.rl = true) ∧ (1 < k → secB h.mf h.ml = true) ∧ (2 < k → secB h.lf h.ll = true) ∧ (3 < k → secB h.df h.dl = true)
theorem secs_all (h : Hd) (s : SecsUp h 4) : SecsB h = true := by
  unfold SecsB
  rw [s.1 (by omega), s.2.1 (by omega), s.2.2.1 (by omega), s.2.2.2 (by omega)]
  rfl
theorem size_sec : Try.t30.size = 2 := by kernel_rfl
theorem idx_sec (c0 c1 c2 c3 c4 c5 c6 c7 : Value) (W : World) :
    Sem.run Try.prog (Instr.index 54 (.agg #[c0, c1, c2, c3, c4, c5, c6, c7]) (.int .i64 0)) W = .ok (.agg #[c0, c1]) W ∧
    Sem.run Try.prog (Instr.index 54 (.agg #[c0, c1, c2, c3, c4, c5, c6, c7]) (.int .i64 1)) W = .ok (.agg #[c2, c3]) W ∧
    Sem.run Try.prog (Instr.index 54 (.agg #[c0, c1, c2, c3, c4, c5, c6, c7]) (.int .i64 2)) W = .ok (.agg #[c4, c5]) W ∧
    Sem.run Try.prog (Instr.index 54 (.agg #[c0, c1, c2, c3, c4, c5, c6, c7]) (.int .i64 3)) W = .ok (.agg #[c6, c7]) W := by
  refine ⟨?_, ?_, ?_, ?_⟩ <;> simp [Instr.index, run_underlying Try.underlying54, asIntOf, part, sizeOf, size_sec, go_sem]
theorem head_size : (Try.prog.info? 32).map (·.size) = some 24 := by kernel_rfl
theorem rhead_size : (Try.prog.info? 26).map (·.size) = some 24 := by kernel_rfl
theorem sections_h (h : Hd) (w : World) : Calls Try.prog 20 #[.agg (cH h)] w fun e w' => e = .returned (.agg #[.int .u64 h.rf, .int .u64 h.rl, .int .u64 h.mf, .int .u64 h.ml, .int .u64 h.lf, .int .u64 h.ll, .int .u64 h.df, .int .u64 h.dl]) ∧ Below w.heap.size w w' := sections_any h w
theorem zooms_h (h : Hd) (w : World) : Calls Try.prog 28 #[.agg (cH h)] w fun e w' => e = .returned (.bool (ZoomsB h)) ∧ Below w.heap.size w w' := zooms_any h w
theorem degrees_h (h : Hd) (w : World) : Calls Try.prog 29 #[.agg (cH h)] w fun e w' => e = .returned (.bool (DegB h)) ∧ Below w.heap.size w w' := degrees_any h w
/-- A whole header is read, as the walk meets it. -/
theorem load_head {ops : Array Oper} {rest : List Oper} {o : Oper} {a : Act} {w : World} {Q : Exit → Act → World → Prop} (hw : Region.wanted o (yielded ops a.tmps) = true) (x : Operand) (ho : o.op = .load 32 x)
    (g : Nat) (hx : a.eval x = .pointer (some ⟨g, 0, none⟩)) (T : TypeId) (h : Hd) (H : HAt w g T h) (k : wpList Try.prog ops Q rest (a.put o.dst (.agg (cH h))) w) : wpList Try.prog ops Q (o :: rest) a w :=
  BigFrame.wpList_want hw fun _ hK => wp_load_row 32 x ho g hx T (cH h) (0, 0) _ H Try.underlying32 rfl head_size (hK _ _ k)
theorem rload_head {ops : Array Oper} {rest : List Oper} {o : Oper} {a : Act} {w : World} {Q : Exit → Act → World → Prop} (hw : Region.wanted o (yielded ops a.tmps) = true) (x : Operand) (ho : o.op = .load 26 x)
    (g : Nat) (hx : a.eval x = .pointer (some ⟨g, 0, none⟩)) (T : TypeId) (h : Hd) (H : HAt w g T h) (k : wpList Try.prog ops Q rest (a.put o.dst (.agg (cH h))) w) : wpList Try.prog ops Q (o :: rest) a w :=
  BigFrame.wpList_want hw fun _ hK => wp_load_row 26 x ho g hx T (cH h) (0, 0) _ H Try.underlying26 rfl rhead_size (hK _ _ k)
end Go.Proofs.Ytodjdeilaimjaaa
