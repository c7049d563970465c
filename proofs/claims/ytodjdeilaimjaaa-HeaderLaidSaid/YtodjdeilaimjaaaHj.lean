/- A whole header stored; a header as a result; the contract of Own: a header of the program's, field by field. -/
import Derived.Test.YtodjdeilaimjaaaHc
import Derived.Laws.CopyOwn
import Derived.BigRegion
import Derived.Deep.DeepCutAuto
import Derived.Deep.RegionHeld3
namespace Go.Proofs.Ytodjdeilaimjaaa
open Go.RowKit
set_option linter.unusedVariables false
theorem cH_one (h : Hd) : (cH h).all (·.oneCell') = true := by simp [cH, Value.oneCell']
theorem cH_size (h : Hd) : (cH h).size = 24 := rfl
/-- What a store of a whole header into block g leaves. -/
def Put24 (w : World) (g : Nat) (T : TypeId) (h : Hd) (w' : World) : Prop := HAt w' g T h ∧ w'.heap.size = w.heap.size ∧ (∀ B w0, B ≤ g → Below B w0 w → Below B w0 w') ∧ (∀ k, k ≠ g → w'.heap[k]? = w.heap[k]?)
theorem Put24.keep {w w' : World} {g : Nat} {T U : TypeId} {h j : Hd} {b : Nat} (p : Put24 w g T h w') (H : HAt w b U j) (hb : b ≠ g) : HAt w' b U j := (p.2.2.2 b hb).trans H
theorem put24 (w : World) (g : Nat) (T : TypeId) (old h : Hd) (H : HAt w g T old) : Put24 w g T h (w.setRow g (cH h)) :=
  ⟨setRow_heap w g _ _ T (0, 0) H, setRow_size _ _ _, fun B w0 hB hb => below_setRow hb hB _, fun k hk => setRow_other w g k _ hk⟩
theorem store_head {ops : Array Oper} {rest : List Oper} {o : Oper} {a : Act} {w : World} {Q : Exit → Act → World → Prop} (hw : Region.wanted o (yielded ops a.tmps) = true) (x y : Operand) (ho : o.op = .store 32 x y)
    (g : Nat) (hx : a.eval x = .pointer (some ⟨g, 0, none⟩)) (h : Hd) (hy : a.eval y = .agg (cH h)) (T : TypeId) (old : Hd) (H : HAt w g T old)
    (hd : o.dst = none) (k : ∀ w', Put24 w g T h w' → wpList Try.prog ops Q rest a w') : wpList Try.prog ops Q (o :: rest) a w :=
  BigFrame.wpList_want hw fun _ hK => wp_store_row 32 x y ho g (cH h) hx hy T (cH old) H head_size rfl (cH_one h) (hK _ _ (by rw [hd]; exact k _ (put24 w g T old h H)))
theorem rstore_head {ops : Array Oper} {rest : List Oper} {o : Oper} {a : Act} {w : World} {Q : Exit → Act → World → Prop} (hw : Region.wanted o (yielded ops a.tmps) = true) (x y : Operand) (ho : o.op = .store 26 x y)
    (g : Nat) (hx : a.eval x = .pointer (some ⟨g, 0, none⟩)) (h : Hd) (hy : a.eval y = .agg (cH h)) (T : TypeId) (old : Hd) (H : HAt w g T old)
    (hd : o.dst = none) (k : ∀ w', Put24 w g T h w' → wpList Try.prog ops Q rest a w') : wpList Try.prog ops Q (o :: rest) a w :=
  BigFrame.wpList_want hw fun _ hK => wp_store_row 26 x y ho g (cH h) hx hy T (cH old) H rhead_size rfl (cH_one h) (hK _ _ (by rw [hd]; exact k _ (put24 w g T old h H)))
/-- A header in a new block of zeros. -/
theorem HAt.zero (w : World) (T : TypeId) : HAt (w.alloc (.cells #[.int .u64 zeroH.rf, .int .u64 zeroH.rl, .int .u64 zeroH.mf, .int .u64 zeroH.ml, .int .u64 zeroH.lf, .int .u64 zeroH.ll, .int .u64 zeroH.df, .int .u64 zeroH.dl, .int .u64 zeroH.ad, .int .u64 zeroH.en, .int .u64 zeroH.co, .bool zeroH.cl, .int .u8 zeroH.inn, .int .u8 zeroH.out, .int .u8 zeroH.knd, .int .i64 zeroH.z0, .int .i64 zeroH.z1, .int .i64 zeroH.lo0, .int .i64 zeroH.la0, .int .i64 zeroH.lo1, .int .i64 zeroH.la1, .int .i64 zeroH.zm, .int .i64 zeroH.lon, .int .i64 zeroH.lat] T)) w.heap.size T zeroH := heap_alloc_new w _
/-- One cell of a header is stored. -/
theorem setCell_blk {w : World} {g i : Nat} {cs : Array Value} {t : TypeId} {fr : Nat × Nat} (h : w.heap[g]? = some (.cells cs t fr)) (v : Value) : (w.setCell ⟨g, i, none⟩ v).heap[g]? = some (.cells (cs.setIfInBounds i v) t fr) := by
  rw [setCell_eq_setRow w g i cs t fr v h]
  exact setRow_heap w g _ _ t _ h
theorem cell_setother {w : World} {a p : Addr} (u : Value) (h : a.block ≠ p.block) : (w.setCell p u).cell? a = w.cell? a := by
  unfold World.cell?
  rw [Below.heap_setCell _ _ _ _ h]
theorem keepO {w w' : World} {h : Hd} {g i : Nat} {u : Value} (hn : ¬ w.heap.size = g) (H : (fun w' => w'.cell? ⟨w.heap.size, 15, none⟩ = some (.int .i64 h.z0) ∧ w'.cell? ⟨w.heap.size, 16, none⟩ = some (.int .i64 h.z1) ∧ w'.cell? ⟨w.heap.size, 17, none⟩ = some (.int .i64 h.lo0) ∧ w'.cell? ⟨w.heap.size, 18, none⟩ = some (.int .i64 h.la0) ∧ w'.cell? ⟨w.heap.size, 19, none⟩ = some (.int .i64 h.lo1) ∧ w'.cell? ⟨w.heap.size, 20, none⟩ = some (.int .i64 h.la1) ∧ w'.cell? ⟨w.heap.size, 21, none⟩ = some (.int .i64 h.zm) ∧ w'.cell? ⟨w.heap.size, 22, none⟩ = some (.int .i64 h.lon) ∧ w'.cell? ⟨w.heap.size, 23, none⟩ = some (.int .i64 h.lat)) w') : (fun w' => w'.cell? ⟨w.heap.size, 15, none⟩ = some (.int .i64 h.z0) ∧ w'.cell? ⟨w.heap.size, 16, none⟩ = some (.int .i64 h.z1) ∧ w'.cell? ⟨w.heap.size, 17, none⟩ = some (.int .i64 h.lo0) ∧ w'.cell? ⟨w.heap.size, 18, none⟩ = some (.int .i64 h.la0) ∧ w'.cell? ⟨w.heap.size, 19, none⟩ = some (.int .i64 h.lo1) ∧ w'.cell? ⟨w.heap.size, 20, none⟩ = some (.int .i64 h.la1) ∧ w'.cell? ⟨w.heap.size, 21, none⟩ = some (.int .i64 h.zm) ∧ w'.cell? ⟨w.heap.size, 22, none⟩ = some (.int .i64 h.lon) ∧ w'.cell? ⟨w.heap.size, 23, none⟩ = some (.int .i64 h.lat)) (w'.setCell ⟨g, i, none⟩ u) :=
  ⟨(cell_setother u hn).trans (H.1), (cell_setother u hn).trans (H.2.1), (cell_setother u hn).trans (H.2.2.1), (cell_setother u hn).trans (H.2.2.2.1), (cell_setother u hn).trans (H.2.2.2.2.1), (cell_setother u hn).trans (H.2.2.2.2.2.1), (cell_setother u hn).trans (H.2.2.2.2.2.2.1), (cell_setother u hn).trans (H.2.2.2.2.2.2.2.1), (cell_setother u hn).trans (H.2.2.2.2.2.2.2.2)⟩
theorem cell_drew {w : World} {a : Addr} : w.drew.cell? a = w.cell? a := rfl
theorem keepOd {w w' : World} {h : Hd} {g i : Nat} {u : Value} (hn : ¬ w.heap.size = g) (H : (fun w' => w'.cell? ⟨w.heap.size, 15, none⟩ = some (.int .i64 h.z0) ∧ w'.cell? ⟨w.heap.size, 16, none⟩ = some (.int .i64 h.z1) ∧ w'.cell? ⟨w.heap.size, 17, none⟩ = some (.int .i64 h.lo0) ∧ w'.cell? ⟨w.heap.size, 18, none⟩ = some (.int .i64 h.la0) ∧ w'.cell? ⟨w.heap.size, 19, none⟩ = some (.int .i64 h.lo1) ∧ w'.cell? ⟨w.heap.size, 20, none⟩ = some (.int .i64 h.la1) ∧ w'.cell? ⟨w.heap.size, 21, none⟩ = some (.int .i64 h.zm) ∧ w'.cell? ⟨w.heap.size, 22, none⟩ = some (.int .i64 h.lon) ∧ w'.cell? ⟨w.heap.size, 23, none⟩ = some (.int .i64 h.lat)) w'.drew) : (fun w' => w'.cell? ⟨w.heap.size, 15, none⟩ = some (.int .i64 h.z0) ∧ w'.cell? ⟨w.heap.size, 16, none⟩ = some (.int .i64 h.z1) ∧ w'.cell? ⟨w.heap.size, 17, none⟩ = some (.int .i64 h.lo0) ∧ w'.cell? ⟨w.heap.size, 18, none⟩ = some (.int .i64 h.la0) ∧ w'.cell? ⟨w.heap.size, 19, none⟩ = some (.int .i64 h.lo1) ∧ w'.cell? ⟨w.heap.size, 20, none⟩ = some (.int .i64 h.la1) ∧ w'.cell? ⟨w.heap.size, 21, none⟩ = some (.int .i64 h.zm) ∧ w'.cell? ⟨w.heap.size, 22, none⟩ = some (.int .i64 h.lon) ∧ w'.cell? ⟨w.heap.size, 23, none⟩ = some (.int .i64 h.lat)) (w'.setCell ⟨g, i, none⟩ u).drew :=
  ⟨cell_drew.trans ((cell_setother u hn).trans (cell_drew.symm.trans (H.1))), cell_drew.trans ((cell_setother u hn).trans (cell_drew.symm.trans (H.2.1))), cell_drew.trans ((cell_setother u hn).trans (cell_drew.symm.trans (H.2.2.1))), cell_drew.trans ((cell_setother u hn).trans (cell_drew.symm.trans (H.2.2.2.1))), cell_drew.trans ((cell_setother u hn).trans (cell_drew.symm.trans (H.2.2.2.2.1))), cell_drew.trans ((cell_setother u hn).trans (cell_drew.symm.trans (H.2.2.2.2.2.1))), cell_drew.trans ((cell_setother u hn).trans (cell_drew.symm.trans (H.2.2.2.2.2.2.1))), cell_drew.trans ((cell_setother u hn).trans (cell_drew.symm.trans (H.2.2.2.2.2.2.2.1))), cell_drew.trans ((cell_setother u hn).trans (cell_drew.symm.trans (H.2.2.2.2.2.2.2.2)))⟩
/-- The fields that Own lays first. -/
def half (h : Hd) : Hd := { h with z0 := 0, z1 := 0, lo0 := 0, la0 := 0, lo1 := 0, la1 := 0, zm := 0, lon := 0, lat := 0 }
/-- The nine fields that Own lays last. -/
def nine (w2 : World) (g : Nat) (h : Hd) : World := (((((((((w2.setCell ⟨g, 15, none⟩ (.int .i64 h.z0)).setCell ⟨g, 16, none⟩ (.int .i64 h.z1)).setCell ⟨g, 17, none⟩ (.int .i64 h.lo0)).setCell ⟨g, 18, none⟩ (.int .i64 h.la0)).setCell ⟨g, 19, none⟩ (.int .i64 h.lo1)).setCell ⟨g, 20, none⟩ (.int .i64 h.la1)).setCell ⟨g, 21, none⟩ (.int .i64 h.zm)).setCell ⟨g, 22, none⟩ (.int .i64 h.lon)).setCell ⟨g, 23, none⟩ (.int .i64 h.lat))
theorem drew_heap (w : World) (k : Nat) : w.drew.heap[k]? = w.heap[k]? := rfl
theorem nine_cells (h : Hd) : (((((((((cH (half h)).setIfInBounds 15 (.int .i64 h.z0)).setIfInBounds 16 (.int .i64 h.z1)).setIfInBounds 17 (.int .i64 h.lo0)).setIfInBounds 18 (.int .i64 h.la0)).setIfInBounds 19 (.int .i64 h.lo1)).setIfInBounds 20 (.int .i64 h.la1)).setIfInBounds 21 (.int .i64 h.zm)).setIfInBounds 22 (.int .i64 h.lon)).setIfInBounds 23 (.int .i64 h.lat) = cH h := by
  unfold cH half
  simp only [List.setIfInBounds_toArray, List.set_cons_zero, List.set_cons_succ]
theorem nine_at {w2 : World} {g : Nat} {T : TypeId} {h : Hd} (H : HAt w2 g T (half h)) : HAt (nine w2 g h).drew g T h := by
  unfold HAt at H ⊢
  rw [drew_heap, ← nine_cells h]
  unfold nine
  exact (setCell_blk (i := 23) (setCell_blk (i := 22) (setCell_blk (i := 21) (setCell_blk (i := 20) (setCell_blk (i := 19) (setCell_blk (i := 18) (setCell_blk (i := 17) (setCell_blk (i := 16) (setCell_blk (i := 15) H (.int .i64 h.z0)) (.int .i64 h.z1)) (.int .i64 h.lo0)) (.int .i64 h.la0)) (.int .i64 h.lo1)) (.int .i64 h.la1)) (.int .i64 h.zm)) (.int .i64 h.lon)) (.int .i64 h.lat))
theorem nine_below {w2 w : World} {g B : Nat} {h : Hd} (hb : Below B w w2) (hB : B ≤ g) : Below B w (nine w2 g h).drew := Below.drew (Below.setCell (Below.setCell (Below.setCell (Below.setCell (Below.setCell (Below.setCell (Below.setCell (Below.setCell (Below.setCell hb hB _) hB _) hB _) hB _) hB _) hB _) hB _) hB _) hB _)
theorem heap_other {w : World} {g i k : Nat} {v : Value} (h : k ≠ g) : (w.setCell ⟨g, i, none⟩ v).heap[k]? = w.heap[k]? := Below.heap_setCell _ _ _ _ h
theorem nine_other {w2 : World} {g k : Nat} {h : Hd} (hk : k ≠ g) : (nine w2 g h).drew.heap[k]? = w2.heap[k]? := by
  rw [drew_heap]
  unfold nine
  simp only [heap_other hk]
set_option maxRecDepth 20000 in
set_option maxHeartbeats 1000000 in
theorem own_any (h : Hd) (w : World) : Calls Try.prog 9 #[.agg (cH h)] w fun e w' => e = .returned (.agg (cH h)) ∧ Below w.heap.size w w' := by
  have H0 := HAt.made w h 26
  go_enter Try.func9, Try.ntmps9
  go_upto_region 1 with fail
  obtain ⟨W, hW⟩ : ∃ W, (w.alloc (.cells (cH h) 26)).alloc (.cells #[.int .u64 zeroH.rf, .int .u64 zeroH.rl, .int .u64 zeroH.mf, .int .u64 zeroH.ml, .int .u64 zeroH.lf, .int .u64 zeroH.ll, .int .u64 zeroH.df, .int .u64 zeroH.dl, .int .u64 zeroH.ad, .int .u64 zeroH.en, .int .u64 zeroH.co, .bool zeroH.cl, .int .u8 zeroH.inn, .int .u8 zeroH.out, .int .u8 zeroH.knd, .int .i64 zeroH.z0, .int .i64 zeroH.z1, .int .i64 zeroH.lo0, .int .i64 zeroH.la0, .int .i64 zeroH.lo1, .int .i64 zeroH.la1, .int .i64 zeroH.zm, .int .i64 zeroH.lon, .int .i64 zeroH.lat] 32) = W := ⟨_, rfl⟩
  have HA : HAt W w.heap.size 26 h := by rw [← hW]; exact H0.below ((Below.refl _ _).alloc (Nat.le_refl _) _) (by rw [World.size_alloc]; omega)
  have HR : HAt W (w.heap.size + 1) 32 zeroH := by rw [← hW, ← World.size_alloc w (.cells (cH h) 26)]; exact HAt.zero _ _
  have hz : w.heap.size + 2 ≤ W.heap.size := by rw [← hW, World.size_alloc, World.size_alloc]; omega
  have U : Below w.heap.size w W := by rw [← hW]; exact ((Below.refl _ _).alloc (Nat.le_refl _) _).alloc (by rw [World.size_alloc]; omega) _
  have hW2 : (w.alloc (.cells (cH h) 26)).alloc (.cells #[.int .u64 0, .int .u64 0, .int .u64 0, .int .u64 0, .int .u64 0, .int .u64 0, .int .u64 0, .int .u64 0, .int .u64 0, .int .u64 0, .int .u64 0, .bool false, .int .u8 0, .int .u8 0, .int .u8 0, .int .i64 0, .int .i64 0, .int .i64 0, .int .i64 0, .int .i64 0, .int .i64 0, .int .i64 0, .int .i64 0, .int .i64 0] 32) = W := hW
  rw [hW2]
  clear hW hW2 H0
  have a0 := at0 HA
  have a1 := at1 HA
  have a2 := at2 HA
  have a3 := at3 HA
  have a4 := at4 HA
  have a5 := at5 HA
  have a6 := at6 HA
  have a7 := at7 HA
  have a8 := at8 HA
  have a9 := at9 HA
  have a10 := at10 HA
  have a11 := at11 HA
  have a12 := at12 HA
  have a13 := at13 HA
  have a14 := at14 HA
  have HZ := HAt.zero W 32
  have HHA := Lib.hid HA
  have HHR := Lib.hid HR
  have HU := Lib.hid U
  clear HA HR U
  go_cut [3] (fun p wx => p = .pointer (some ⟨W.heap.size, 0, none⟩) ∧ HAt wx w.heap.size 26 h ∧ HAt wx (w.heap.size + 1) 32 zeroH ∧ HAt wx W.heap.size 32 (half h) ∧ Below w.heap.size w wx ∧ W.heap.size + 1 ≤ wx.heap.size)
  case first =>
    go_wp2_with (first | (refine store_head (by rfl) _ _ rfl _ rfl (half h) rfl _ zeroH (by assumption) rfl ?_; intro w2 HP) | fail)
    go_meet
    case rel =>
      have hlt : w.heap.size < W.heap.size := by omega
      exact ⟨rfl, HP.keep (HHA.out.later ((Below.refl _ _).alloc (Nat.le_refl _) _)) (by omega), HP.keep (HHR.out.later ((Below.refl _ _).alloc (Nat.le_refl _) _)) (by omega), HP.1, HP.2.2.1 _ _ (by omega) (HU.out.alloc (by omega) _), by rw [HP.2.1, World.size_alloc]; omega⟩
  case rest =>
  obtain ⟨rfl, HA2, HR2, HB2, U2, hz2⟩ := hcut
  generalize wc = w2 at *
  have hlt : w.heap.size < W.heap.size := by omega
  have hf : ∀ o, w2.frozen? ⟨W.heap.size, o, none⟩ = false := fun o => by unfold HAt at HB2; simp [World.frozen?, HB2]
  clear HZ HHA HHR HU
  clear a0 a1 a2 a3 a4 a5 a6 a7 a8 a9 a10 a11 a12 a13 a14
  have a15 := at15 HA2
  have a16 := at16 HA2
  have a17 := at17 HA2
  have a18 := at18 HA2
  have a19 := at19 HA2
  have a20 := at20 HA2
  have a21 := at21 HA2
  have a22 := at22 HA2
  have a23 := at23 HA2
  have e15 : w2.cell? ⟨W.heap.size, 15, none⟩ = some (.int .i64 0) := at15 HB2
  have e16 : w2.cell? ⟨W.heap.size, 16, none⟩ = some (.int .i64 0) := at16 HB2
  have e17 : w2.cell? ⟨W.heap.size, 17, none⟩ = some (.int .i64 0) := at17 HB2
  have e18 : w2.cell? ⟨W.heap.size, 18, none⟩ = some (.int .i64 0) := at18 HB2
  have e19 : w2.cell? ⟨W.heap.size, 19, none⟩ = some (.int .i64 0) := at19 HB2
  have e20 : w2.cell? ⟨W.heap.size, 20, none⟩ = some (.int .i64 0) := at20 HB2
  have e21 : w2.cell? ⟨W.heap.size, 21, none⟩ = some (.int .i64 0) := at21 HB2
  have e22 : w2.cell? ⟨W.heap.size, 22, none⟩ = some (.int .i64 0) := at22 HB2
  have e23 : w2.cell? ⟨W.heap.size, 23, none⟩ = some (.int .i64 0) := at23 HB2
  have hn1 : ¬ W.heap.size = w.heap.size := by omega
  have hn2 : ¬ w.heap.size = W.heap.size := by omega
  have HHA := Lib.hid HA2
  have HHR := Lib.hid HR2
  have HHB := Lib.hid HB2
  have HU := Lib.hid U2
  have HZ2 : Hid (W.heap.size + 1 ≤ w2.heap.size) := Lib.hid (by omega)
  clear HA2 HR2 HB2 U2 hz2
  go_upto_region 2 with fail
  have HS0 : Hid ((fun w' => w'.cell? ⟨w.heap.size, 15, none⟩ = some (.int .i64 h.z0) ∧ w'.cell? ⟨w.heap.size, 16, none⟩ = some (.int .i64 h.z1) ∧ w'.cell? ⟨w.heap.size, 17, none⟩ = some (.int .i64 h.lo0) ∧ w'.cell? ⟨w.heap.size, 18, none⟩ = some (.int .i64 h.la0) ∧ w'.cell? ⟨w.heap.size, 19, none⟩ = some (.int .i64 h.lo1) ∧ w'.cell? ⟨w.heap.size, 20, none⟩ = some (.int .i64 h.la1) ∧ w'.cell? ⟨w.heap.size, 21, none⟩ = some (.int .i64 h.zm) ∧ w'.cell? ⟨w.heap.size, 22, none⟩ = some (.int .i64 h.lon) ∧ w'.cell? ⟨w.heap.size, 23, none⟩ = some (.int .i64 h.lat)) w2.drew) := Lib.hid ⟨cellb_later (Below.drew (Below.refl _ _)) a15, cellb_later (Below.drew (Below.refl _ _)) a16, cellb_later (Below.drew (Below.refl _ _)) a17, cellb_later (Below.drew (Below.refl _ _)) a18, cellb_later (Below.drew (Below.refl _ _)) a19, cellb_later (Below.drew (Below.refl _ _)) a20, cellb_later (Below.drew (Below.refl _ _)) a21, cellb_later (Below.drew (Below.refl _ _)) a22, cellb_later (Below.drew (Below.refl _ _)) a23⟩
  clear a15 a16 a17 a18 a19 a20 a21 a22 a23
  go_cut [] (fun wx => HAt wx W.heap.size 32 h ∧ HAt wx (w.heap.size + 1) 32 zeroH ∧ Below w.heap.size w wx)
  case first =>
    go_region_held3 (fun w' => w'.cell? ⟨w.heap.size, 15, none⟩ = some (.int .i64 h.z0) ∧ w'.cell? ⟨w.heap.size, 16, none⟩ = some (.int .i64 h.z1) ∧ w'.cell? ⟨w.heap.size, 17, none⟩ = some (.int .i64 h.lo0) ∧ w'.cell? ⟨w.heap.size, 18, none⟩ = some (.int .i64 h.la0) ∧ w'.cell? ⟨w.heap.size, 19, none⟩ = some (.int .i64 h.lo1) ∧ w'.cell? ⟨w.heap.size, 20, none⟩ = some (.int .i64 h.la1) ∧ w'.cell? ⟨w.heap.size, 21, none⟩ = some (.int .i64 h.zm) ∧ w'.cell? ⟨w.heap.size, 22, none⟩ = some (.int .i64 h.lon) ∧ w'.cell? ⟨w.heap.size, 23, none⟩ = some (.int .i64 h.lat)) (first | (with_reducible exact keepOd hn2 (by with_reducible assumption)) | (with_reducible exact HS0.out)) (fail)
    go_wp2_with fail
    go_meet
    case rel => exact ⟨nine_at HHB.out, (nine_other (by omega)).trans HHR.out, nine_below HU.out (by omega)⟩
  case rest =>
    obtain ⟨hA, hB, hU⟩ := hcut
    generalize wc = w3 at *
    clear HS0 HHA HHR HHB HU HZ2 hf e15 e16 e17 e18 e19 e20 e21 e22 e23
    go_wp2_with (first | (refine load_head (by rfl) _ rfl _ rfl _ h (by assumption) ?_) | (refine store_head (by rfl) _ _ rfl _ rfl h rfl _ zeroH (by assumption) rfl ?_; intro w4 HP) | fail)
    refine bodyPost_ret (v := .agg (cH h)) (results_cell_row Try.results9 _ _ _ _ _ _ _ rfl HP.1 Try.underlying32 rfl head_size) rfl ⟨rfl, HP.2.2.1 _ _ (by omega) hU⟩
end Go.Proofs.Ytodjdeilaimjaaa
