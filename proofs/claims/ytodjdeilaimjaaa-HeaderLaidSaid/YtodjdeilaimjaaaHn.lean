/- The contract of take, at 64 bits, bytes and ints, and of takeDegrees: numbers are taken off one behind the other, into the places that the pointers lead to. -/
import Derived.Test.YtodjdeilaimjaaaHl
import Derived.Deep.DeepCutAuto
namespace Go.Proofs.Ytodjdeilaimjaaa
open Go.RowKit
set_option linter.unusedVariables false
/-- One value after another stored at the places. -/
def setsN (w : World) (ps : Nat → Addr) (val : Nat → Value) : Nat → World
  | 0 => w
  | k + 1 => (setsN w ps val k).setCell (ps k) (val k)
theorem setsN_size (w : World) (ps : Nat → Addr) (val : Nat → Value) (k : Nat) : (setsN w ps val k).heap.size = w.heap.size := by
  induction k with
  | zero => rfl
  | succ k ih => rw [setsN, World.size_setCell, ih]
theorem setsN_cell (w : World) (ps : Nat → Addr) (val : Nat → Value) (k : Nat) (a : Addr) (h : ∀ i, i < k → a.block ≠ (ps i).block) : (setsN w ps val k).cell? a = w.cell? a := by
  induction k with
  | zero => rfl
  | succ k ih => rw [setsN, cell_setother _ (h k (by omega)), ih (fun i hi => h i (by omega))]
theorem setsN_heap (w : World) (ps : Nat → Addr) (val : Nat → Value) (k b : Nat) (h : ∀ i, i < k → b ≠ (ps i).block) : (setsN w ps val k).heap[b]? = w.heap[b]? := by
  induction k with
  | zero => rfl
  | succ k ih => rw [setsN, Below.heap_setCell _ _ _ _ (h k (by omega)), ih (fun i hi => h i (by omega))]
/-- Is the place there, and may it be written? -/
def OpenAt (w : World) (a : Addr) : Prop := (∃ v, w.cell? a = some v) ∧ w.frozen? a = false
theorem OpenAt.setCell {w : World} {a p : Addr} {v : Value} (h : OpenAt w a) : OpenAt (w.setCell p v) a := by
  obtain ⟨⟨u, h1⟩, h2⟩ := h
  refine ⟨?_, by rw [World.frozen?_setCell]; exact h2⟩
  by_cases e : a = p
  · subst e
    exact ⟨v, World.cell?_setCell_same _ _ _ h1⟩
  · exact ⟨u, by rw [World.cell?_setCell_other _ _ _ _ (fun e2 => e e2.symm)]; exact h1⟩
theorem setsN_open (w : World) (ps : Nat → Addr) (val : Nat → Value) (k : Nat) (a : Addr) (h : OpenAt w a) : OpenAt (setsN w ps val k) a := by
  induction k with
  | zero => exact h
  | succ k ih => exact ih.setCell
theorem OpenAt.below {B : Nat} {w w' : World} {a : Addr} (h : OpenAt w a) (hb : Below B w w') (hB : a.block < B) : OpenAt w' a := by
  obtain ⟨⟨u, h1⟩, h2⟩ := h
  refine ⟨⟨u, (hb.cell hB).trans h1⟩, ?_⟩
  unfold World.frozen? at h2 ⊢
  rw [hb.block _ hB]; exact h2
theorem below_both {B : Nat} {a c : World} {p : Addr} {v : Value} (h : Below B a c) : Below B (a.setCell p v) (c.setCell p v) := by
  refine ⟨h.os, h.tape, h.output, by rw [World.size_setCell, World.size_setCell]; exact h.size, fun k hk => ?_⟩
  have := h.block k hk
  unfold World.setCell
  simp only [Array.getElem?_modify]
  rw [this]
/-- A row of pointers. -/
def PtrsAt (w : World) (v : Value) (ps : Nat → Addr) (n : Nat) : Prop :=
  ∃ b cap, v = .slice (some ⟨b, 0, none⟩) n cap ∧ n ≤ cap ∧ cap ≤ maxLen ∧ b < w.heap.size ∧ ∀ i, i < n → w.cell? ⟨b, i, none⟩ = some (.pointer (some (ps i))) ∧ b ≠ (ps i).block ∧ (ps i).spot = none
/-- What a take leaves. -/
def TakeEnd (w : World) (t : ByteArray) (q : Nat) (ps : Nat → Addr) (val : Nat → Value) (n : Nat) (e : Ending) (w' : World) : Prop :=
  e = .returned (.agg #[.string t, .int .i64 q, .int .i64 0]) ∧ Below w.heap.size (setsN w ps val n) w'
/-- A scan in a block. -/
def ScanAt (w : World) (b : Nat) (t : ByteArray) (q : Int) : Prop := w.heap[b]? = some (.cells #[.string t, .int .i64 q, .int .i64 0] 66 (0, 0))
theorem ScanAt.lt {w : World} {b : Nat} {t : ByteArray} {q : Int} (h : ScanAt w b t q) : b < w.heap.size := by
  rcases Nat.lt_or_ge b w.heap.size with h' | h'
  · exact h'
  · unfold ScanAt at h; rw [Array.getElem?_eq_none h'] at h; cases h
theorem ScanAt.later {w w' : World} {b : Nat} {t : ByteArray} {q : Int} (h : ScanAt w b t q) (hb : Below w.heap.size w w') : ScanAt w' b t q := (hb.block b h.lt).trans h
theorem ScanAt.cells {w : World} {b : Nat} {t : ByteArray} {q : Int} (h : ScanAt w b t q) : w.cell? ⟨b, 0, none⟩ = some (.string t) ∧ w.cell? ⟨b, 1, none⟩ = some (.int .i64 q) ∧ w.cell? ⟨b, 2, none⟩ = some (.int .i64 0) ∧ ∀ o, w.frozen? ⟨b, o, none⟩ = false := by
  unfold ScanAt at h
  refine ⟨cell_blk h 0, cell_blk h 1, cell_blk h 2, fun o => by simp [World.frozen?, h]⟩
theorem ScanAt.apart {w : World} {b : Nat} {t : ByteArray} {q : Int} {p : Addr} {v : Value} (h : ScanAt w b t q) (hp : b ≠ p.block) : ScanAt (w.setCell p v) b t q := (Below.heap_setCell _ _ _ _ hp).trans h
/-- A scan goes on: its place is stored anew. -/
theorem ScanAt.on {w : World} {b : Nat} {t : ByteArray} {q r : Int} (h : ScanAt w b t q) : ScanAt (((w.setCell ⟨b, 0, none⟩ (.string t)).setCell ⟨b, 1, none⟩ (.int .i64 r)).setCell ⟨b, 2, none⟩ (.int .i64 0)) b t r :=
  setCell_blk (i := 2) (setCell_blk (i := 1) (setCell_blk (i := 0) h _) _) _
set_option maxRecDepth 20000 in
theorem takeW_any (t : ByteArray) (p0 m : Nat) (v : Value) (ps : Nat → Addr) (w : World) (hm : t.size ≤ maxLen) (hv : PtrsAt w v ps m) (hp : ∀ i, i < m → OpenAt w (ps i) ∧ (ps i).block < w.heap.size) (hs : p0 + 8 * m ≤ t.size) :
    Calls Try.prog 50 #[.agg #[.string t, .int .i64 p0, .int .i64 0], .int .i64 8, v] w (TakeEnd w t (p0 + 8 * m) ps (fun k => .int .u64 (nmB t (p0 + 8 * k) 8)) m) := by
  obtain ⟨c, cap, rfl, hc1, hc2, hc, hcell⟩ := hv
  have HC := Lib.hid hcell; clear hcell
  have HP := Lib.hid hp; clear hp
  have hml : m ≤ 9223372036854775807 := by unfold maxLen at hc2; omega
  have HM := Lib.hid hm; clear hm
  go_enter Try.func50, Try.ntmps50
  have hS0 : ScanAt ((w.alloc (.cells #[.string t, .int .i64 p0, .int .i64 0] 66)).alloc (.cells #[.string ⟨#[]⟩, .int .i64 0, .int .i64 0] 66)) w.heap.size t ((p0 + 8 * 0 : Nat) : Int) := ((Below.refl _ _).alloc (B := w.heap.size + 1) (by rw [World.size_alloc]; omega) _).block _ (by omega) |>.trans (heap_alloc_new w _)
  have hR0 : ScanAt ((w.alloc (.cells #[.string t, .int .i64 p0, .int .i64 0] 66)).alloc (.cells #[.string ⟨#[]⟩, .int .i64 0, .int .i64 0] 66)) (w.heap.size + 1) ⟨#[]⟩ 0 := by
    have := heap_alloc_new (w.alloc (.cells #[.string t, .int .i64 p0, .int .i64 0] 66)) (.cells #[.string ⟨#[]⟩, .int .i64 0, .int .i64 0] 66)
    rw [World.size_alloc] at this
    exact this
  have hB0 : Below w.heap.size w ((w.alloc (.cells #[.string t, .int .i64 p0, .int .i64 0] 66)).alloc (.cells #[.string ⟨#[]⟩, .int .i64 0, .int .i64 0] 66)) := ((Below.refl _ _).alloc (Nat.le_refl _) _).alloc (by rw [World.size_alloc]; omega) _
  have HS0 := Lib.hid hS0
  have HR0 := Lib.hid hR0
  have HB0 := Lib.hid hB0
  clear hS0 hR0 hB0
  go_wp2_with fail
  go_loopw [12] (fun i wr => ∃ k : Nat, k ≤ m ∧ i = .int .i64 k ∧ ScanAt wr w.heap.size t ((p0 + 8 * k : Nat) : Int) ∧ ScanAt wr (w.heap.size + 1) ⟨#[]⟩ 0 ∧ Below w.heap.size (setsN w ps (fun k => .int .u64 (nmB t (p0 + 8 * k) 8)) k) wr) (fun i _ => m - (intOf i).toNat)
  case atStart => exact ⟨0, Nat.zero_le _, rfl, HS0.out, HR0.out, HB0.out⟩
  case round =>
    obtain ⟨k, hk, rfl, hS, hR, hb⟩ := hrel
    by_cases hlt : k < m
    · obtain ⟨hc1, hcn, hsp⟩ := HC.out k hlt
      obtain ⟨hop, hpb⟩ := HP.out k hlt
      have hsz : (setsN w ps (fun k => .int .u64 (nmB t (p0 + 8 * k) 8)) k).heap.size = w.heap.size := setsN_size _ _ _ _
      have hrs := hb.size
      rw [hsz] at hrs
      have c1 := (hb.cell (p := ⟨c, k, none⟩) hc).trans ((setsN_cell _ _ _ _ _ (fun i hi => (HC.out i (by omega)).2.1)).trans hc1)
      have hop1 := (setsN_open w ps (fun k => .int .u64 (nmB t (p0 + 8 * k) 8)) k _ hop).below hb hpb
      have HE : Hid (((p0 + 8 * (k + 1) : Nat) : Int) = ((p0 + 8 * k : Nat) : Int) + 8) := Lib.hid (by rw [Nat.mul_succ]; omega)
      have hq8 : p0 + 8 * k + 8 ≤ t.size := by have := Nat.mul_le_mul_left 8 (show k + 1 ≤ m from hlt); omega
      have hval : ∃ y : Value, y = (fun k => .int .u64 (nmB t (p0 + 8 * k) 8)) k := ⟨_, rfl⟩
      obtain ⟨q, hq⟩ : ∃ q, p0 + 8 * k = q := ⟨_, rfl⟩
      have HQ := Lib.hid hq
      rw [hq] at hS HE hq8
      have HN : Hid (∀ W, Calls Try.prog 33 #[.agg #[.string t, .int .i64 q, .int .i64 0], .int .i64 8] W fun e w' => e = .returned (.tuple #[.int .u64 (nmB t q 8), .agg #[.string t, .int .i64 ((q : Int) + 8), .int .i64 0]]) ∧ Below W.heap.size W w') := Lib.hid (fun W => by
        have := num_at t q 8 W HM.out (by omega) (by omega) hq8
        rw [show ((q + 8 : Nat) : Int) = (q : Int) + 8 from by omega] at this
        exact this)
      clear hq hval
      obtain ⟨s0, s1, s2, sf⟩ := hS.cells
      have HS := Lib.hid hS
      have HR := Lib.hid hR
      have HB := Lib.hid hb
      have HO := Lib.hid hop1
      clear hS hR hb hop hop1 hc1 hsz hcn
      obtain ⟨x, hx⟩ : ∃ x, nmB t q 8 = x := ⟨_, rfl⟩
      have HX := Lib.hid hx
      rw [hx] at HN
      clear hx hq8
      go_wp2_with fail
      refine (HN.out _).mono ?_
      rintro e w2 ⟨rfl, hb2⟩
      have hS2 := HS.out.later hb2
      have hR2 := HR.out.later hb2
      obtain ⟨p, hp⟩ : ∃ p, ps k = p := ⟨_, rfl⟩
      have hO2 := HO.out.below hb2 (by omega)
      rw [hp] at hO2 hpb hsp ⊢
      have HPP := Lib.hid hp
      clear hp
      obtain ⟨pb, po, sp⟩ := p
      simp only at hsp hpb
      subst hsp
      obtain ⟨⟨u, o1⟩, o2⟩ := hO2
      obtain ⟨r0, r1, r2, rf⟩ := hS2.cells
      have hB2 := HB.out.trans (hb2.mono (by omega))
      have HS2 := Lib.hid hS2
      have HR2 := Lib.hid hR2
      have HB2 := Lib.hid hB2
      have hn1 : ¬ pb = w.heap.size := by omega
      have hn2 : ¬ w.heap.size = pb := by omega
      clear hb2 hS2 hR2 hB2 HS HR HB HO s0 s1 s2 sf
      go_wp2_with fail
      have hset : setsN w ps (fun k => .int .u64 (nmB t (p0 + 8 * k) 8)) (k + 1) = (setsN w ps (fun k => .int .u64 (nmB t (p0 + 8 * k) 8)) k).setCell ⟨pb, po, none⟩ (.int .u64 x) := by
        rw [setsN, HPP.out, HQ.out, HX.out]
      have HSET := Lib.hid hset
      clear hset
      go_roundw
      case rel =>
        refine ⟨k + 1, by omega, by go_num, ?_, ?_, ?_⟩
        · rw [HE.out]; exact HS2.out.on.apart hn2
        · exact (((HR2.out.apart (by simp)).apart (by simp)).apart (by simp)).apart (by simp; omega)
        · rw [HSET.out]; exact below_both (((HB2.out.setCell (Nat.le_refl _) _).setCell (Nat.le_refl _) _).setCell (Nat.le_refl _) _)
      case measure => simp [intOf]; omega
    · obtain rfl : k = m := by omega
      obtain ⟨q, hq⟩ : ∃ q, p0 + 8 * k = q := ⟨_, rfl⟩
      have HQ := Lib.hid hq
      rw [hq] at hS
      obtain ⟨r0, r1, r2, rf⟩ := hS.cells
      obtain ⟨t0, t1, t2, tf⟩ := hR.cells
      have HB := Lib.hid hb
      clear hS hR hb hq
      go_wp2_with fail
      refine bodyPost_ret (v := .agg #[.string t, .int .i64 q, .int .i64 0]) (by simp [results, Try.results50, go_sem, t0, t1, t2]) rfl ⟨by rw [HQ.out], ((HB.out.setCell (by simp) _).setCell (by simp) _).setCell (by simp) _⟩
set_option maxRecDepth 20000 in
theorem takeB_any (t : ByteArray) (p0 m : Nat) (v : Value) (ps : Nat → Addr) (w : World) (hm : t.size ≤ maxLen) (hv : PtrsAt w v ps m) (hp : ∀ i, i < m → OpenAt w (ps i) ∧ (ps i).block < w.heap.size) (hs : p0 + 1 * m ≤ t.size) :
    Calls Try.prog 51 #[.agg #[.string t, .int .i64 p0, .int .i64 0], .int .i64 1, v] w (TakeEnd w t (p0 + 1 * m) ps (fun k => .int .u8 (nmB t (p0 + 1 * k) 1)) m) := by
  obtain ⟨c, cap, rfl, hc1, hc2, hc, hcell⟩ := hv
  have HC := Lib.hid hcell; clear hcell
  have HP := Lib.hid hp; clear hp
  have hml : m ≤ 9223372036854775807 := by unfold maxLen at hc2; omega
  have HM := Lib.hid hm; clear hm
  go_enter Try.func51, Try.ntmps51
  have hS0 : ScanAt ((w.alloc (.cells #[.string t, .int .i64 p0, .int .i64 0] 66)).alloc (.cells #[.string ⟨#[]⟩, .int .i64 0, .int .i64 0] 66)) w.heap.size t ((p0 + 1 * 0 : Nat) : Int) := ((Below.refl _ _).alloc (B := w.heap.size + 1) (by rw [World.size_alloc]; omega) _).block _ (by omega) |>.trans (heap_alloc_new w _)
  have hR0 : ScanAt ((w.alloc (.cells #[.string t, .int .i64 p0, .int .i64 0] 66)).alloc (.cells #[.string ⟨#[]⟩, .int .i64 0, .int .i64 0] 66)) (w.heap.size + 1) ⟨#[]⟩ 0 := by
    have := heap_alloc_new (w.alloc (.cells #[.string t, .int .i64 p0, .int .i64 0] 66)) (.cells #[.string ⟨#[]⟩, .int .i64 0, .int .i64 0] 66)
    rw [World.size_alloc] at this
    exact this
  have hB0 : Below w.heap.size w ((w.alloc (.cells #[.string t, .int .i64 p0, .int .i64 0] 66)).alloc (.cells #[.string ⟨#[]⟩, .int .i64 0, .int .i64 0] 66)) := ((Below.refl _ _).alloc (Nat.le_refl _) _).alloc (by rw [World.size_alloc]; omega) _
  have HS0 := Lib.hid hS0
  have HR0 := Lib.hid hR0
  have HB0 := Lib.hid hB0
  clear hS0 hR0 hB0
  go_wp2_with fail
  go_loopw [12] (fun i wr => ∃ k : Nat, k ≤ m ∧ i = .int .i64 k ∧ ScanAt wr w.heap.size t ((p0 + 1 * k : Nat) : Int) ∧ ScanAt wr (w.heap.size + 1) ⟨#[]⟩ 0 ∧ Below w.heap.size (setsN w ps (fun k => .int .u8 (nmB t (p0 + 1 * k) 1)) k) wr) (fun i _ => m - (intOf i).toNat)
  case atStart => exact ⟨0, Nat.zero_le _, rfl, HS0.out, HR0.out, HB0.out⟩
  case round =>
    obtain ⟨k, hk, rfl, hS, hR, hb⟩ := hrel
    by_cases hlt : k < m
    · obtain ⟨hc1, hcn, hsp⟩ := HC.out k hlt
      obtain ⟨hop, hpb⟩ := HP.out k hlt
      have hsz : (setsN w ps (fun k => .int .u8 (nmB t (p0 + 1 * k) 1)) k).heap.size = w.heap.size := setsN_size _ _ _ _
      have hrs := hb.size
      rw [hsz] at hrs
      have c1 := (hb.cell (p := ⟨c, k, none⟩) hc).trans ((setsN_cell _ _ _ _ _ (fun i hi => (HC.out i (by omega)).2.1)).trans hc1)
      have hop1 := (setsN_open w ps (fun k => .int .u8 (nmB t (p0 + 1 * k) 1)) k _ hop).below hb hpb
      have HE : Hid (((p0 + 1 * (k + 1) : Nat) : Int) = ((p0 + 1 * k : Nat) : Int) + 1) := Lib.hid (by rw [Nat.mul_succ]; omega)
      have hq8 : p0 + 1 * k + 1 ≤ t.size := by have := Nat.mul_le_mul_left 1 (show k + 1 ≤ m from hlt); omega
      have hval : ∃ y : Value, y = (fun k => .int .u8 (nmB t (p0 + 1 * k) 1)) k := ⟨_, rfl⟩
      obtain ⟨q, hq⟩ : ∃ q, p0 + 1 * k = q := ⟨_, rfl⟩
      have HQ := Lib.hid hq
      rw [hq] at hS HE hq8
      have HN : Hid (∀ W, Calls Try.prog 33 #[.agg #[.string t, .int .i64 q, .int .i64 0], .int .i64 1] W fun e w' => e = .returned (.tuple #[.int .u64 (nmB t q 1), .agg #[.string t, .int .i64 ((q : Int) + 1), .int .i64 0]]) ∧ Below W.heap.size W w') := Lib.hid (fun W => by
        have := num_at t q 1 W HM.out (by omega) (by omega) hq8
        rw [show ((q + 1 : Nat) : Int) = (q : Int) + 1 from by omega] at this
        exact this)
      clear hq hval
      obtain ⟨s0, s1, s2, sf⟩ := hS.cells
      have HS := Lib.hid hS
      have HR := Lib.hid hR
      have HB := Lib.hid hb
      have HO := Lib.hid hop1
      clear hS hR hb hop hop1 hc1 hsz hcn
      have hxb := nmB_bd t q 1 hq8
      rw [p256_1] at hxb
      obtain ⟨x, hx⟩ : ∃ x, nmB t q 1 = x := ⟨_, rfl⟩
      have HX := Lib.hid hx
      rw [hx] at HN hxb
      have hwx : IntKind.u8.wrap x = x := by rw [IntKind.wrap_u8] <;> omega
      clear hx hq8
      go_wp2_with fail
      refine (HN.out _).mono ?_
      rintro e w2 ⟨rfl, hb2⟩
      have hS2 := HS.out.later hb2
      have hR2 := HR.out.later hb2
      obtain ⟨p, hp⟩ : ∃ p, ps k = p := ⟨_, rfl⟩
      have hO2 := HO.out.below hb2 (by omega)
      rw [hp] at hO2 hpb hsp ⊢
      have HPP := Lib.hid hp
      clear hp
      obtain ⟨pb, po, sp⟩ := p
      simp only at hsp hpb
      subst hsp
      obtain ⟨⟨u, o1⟩, o2⟩ := hO2
      obtain ⟨r0, r1, r2, rf⟩ := hS2.cells
      have hB2 := HB.out.trans (hb2.mono (by omega))
      have HS2 := Lib.hid hS2
      have HR2 := Lib.hid hR2
      have HB2 := Lib.hid hB2
      have hn1 : ¬ pb = w.heap.size := by omega
      have hn2 : ¬ w.heap.size = pb := by omega
      clear hb2 hS2 hR2 hB2 HS HR HB HO s0 s1 s2 sf
      go_wp2_with fail
      have hset : setsN w ps (fun k => .int .u8 (nmB t (p0 + 1 * k) 1)) (k + 1) = (setsN w ps (fun k => .int .u8 (nmB t (p0 + 1 * k) 1)) k).setCell ⟨pb, po, none⟩ (.int .u8 x) := by
        rw [setsN, HPP.out, HQ.out, HX.out]
      have HSET := Lib.hid hset
      clear hset
      go_roundw
      case rel =>
        refine ⟨k + 1, by omega, by go_num, ?_, ?_, ?_⟩
        · rw [HE.out]; exact HS2.out.on.apart hn2
        · exact (((HR2.out.apart (by simp)).apart (by simp)).apart (by simp)).apart (by simp; omega)
        · rw [HSET.out]; exact below_both (((HB2.out.setCell (Nat.le_refl _) _).setCell (Nat.le_refl _) _).setCell (Nat.le_refl _) _)
      case measure => simp [intOf]; omega
    · obtain rfl : k = m := by omega
      obtain ⟨q, hq⟩ : ∃ q, p0 + 1 * k = q := ⟨_, rfl⟩
      have HQ := Lib.hid hq
      rw [hq] at hS
      obtain ⟨r0, r1, r2, rf⟩ := hS.cells
      obtain ⟨t0, t1, t2, tf⟩ := hR.cells
      have HB := Lib.hid hb
      clear hS hR hb hq
      go_wp2_with fail
      refine bodyPost_ret (v := .agg #[.string t, .int .i64 q, .int .i64 0]) (by simp [results, Try.results51, go_sem, t0, t1, t2]) rfl ⟨by rw [HQ.out], ((HB.out.setCell (by simp) _).setCell (by simp) _).setCell (by simp) _⟩
set_option maxRecDepth 20000 in
theorem takeI_any (t : ByteArray) (p0 m : Nat) (v : Value) (ps : Nat → Addr) (w : World) (hm : t.size ≤ maxLen) (hv : PtrsAt w v ps m) (hp : ∀ i, i < m → OpenAt w (ps i) ∧ (ps i).block < w.heap.size) (hs : p0 + 1 * m ≤ t.size) :
    Calls Try.prog 52 #[.agg #[.string t, .int .i64 p0, .int .i64 0], .int .i64 1, v] w (TakeEnd w t (p0 + 1 * m) ps (fun k => .int .i64 (nmB t (p0 + 1 * k) 1)) m) := by
  obtain ⟨c, cap, rfl, hc1, hc2, hc, hcell⟩ := hv
  have HC := Lib.hid hcell; clear hcell
  have HP := Lib.hid hp; clear hp
  have hml : m ≤ 9223372036854775807 := by unfold maxLen at hc2; omega
  have HM := Lib.hid hm; clear hm
  go_enter Try.func52, Try.ntmps52
  have hS0 : ScanAt ((w.alloc (.cells #[.string t, .int .i64 p0, .int .i64 0] 66)).alloc (.cells #[.string ⟨#[]⟩, .int .i64 0, .int .i64 0] 66)) w.heap.size t ((p0 + 1 * 0 : Nat) : Int) := ((Below.refl _ _).alloc (B := w.heap.size + 1) (by rw [World.size_alloc]; omega) _).block _ (by omega) |>.trans (heap_alloc_new w _)
  have hR0 : ScanAt ((w.alloc (.cells #[.string t, .int .i64 p0, .int .i64 0] 66)).alloc (.cells #[.string ⟨#[]⟩, .int .i64 0, .int .i64 0] 66)) (w.heap.size + 1) ⟨#[]⟩ 0 := by
    have := heap_alloc_new (w.alloc (.cells #[.string t, .int .i64 p0, .int .i64 0] 66)) (.cells #[.string ⟨#[]⟩, .int .i64 0, .int .i64 0] 66)
    rw [World.size_alloc] at this
    exact this
  have hB0 : Below w.heap.size w ((w.alloc (.cells #[.string t, .int .i64 p0, .int .i64 0] 66)).alloc (.cells #[.string ⟨#[]⟩, .int .i64 0, .int .i64 0] 66)) := ((Below.refl _ _).alloc (Nat.le_refl _) _).alloc (by rw [World.size_alloc]; omega) _
  have HS0 := Lib.hid hS0
  have HR0 := Lib.hid hR0
  have HB0 := Lib.hid hB0
  clear hS0 hR0 hB0
  go_wp2_with fail
  go_loopw [12] (fun i wr => ∃ k : Nat, k ≤ m ∧ i = .int .i64 k ∧ ScanAt wr w.heap.size t ((p0 + 1 * k : Nat) : Int) ∧ ScanAt wr (w.heap.size + 1) ⟨#[]⟩ 0 ∧ Below w.heap.size (setsN w ps (fun k => .int .i64 (nmB t (p0 + 1 * k) 1)) k) wr) (fun i _ => m - (intOf i).toNat)
  case atStart => exact ⟨0, Nat.zero_le _, rfl, HS0.out, HR0.out, HB0.out⟩
  case round =>
    obtain ⟨k, hk, rfl, hS, hR, hb⟩ := hrel
    by_cases hlt : k < m
    · obtain ⟨hc1, hcn, hsp⟩ := HC.out k hlt
      obtain ⟨hop, hpb⟩ := HP.out k hlt
      have hsz : (setsN w ps (fun k => .int .i64 (nmB t (p0 + 1 * k) 1)) k).heap.size = w.heap.size := setsN_size _ _ _ _
      have hrs := hb.size
      rw [hsz] at hrs
      have c1 := (hb.cell (p := ⟨c, k, none⟩) hc).trans ((setsN_cell _ _ _ _ _ (fun i hi => (HC.out i (by omega)).2.1)).trans hc1)
      have hop1 := (setsN_open w ps (fun k => .int .i64 (nmB t (p0 + 1 * k) 1)) k _ hop).below hb hpb
      have HE : Hid (((p0 + 1 * (k + 1) : Nat) : Int) = ((p0 + 1 * k : Nat) : Int) + 1) := Lib.hid (by rw [Nat.mul_succ]; omega)
      have hq8 : p0 + 1 * k + 1 ≤ t.size := by have := Nat.mul_le_mul_left 1 (show k + 1 ≤ m from hlt); omega
      have hval : ∃ y : Value, y = (fun k => .int .i64 (nmB t (p0 + 1 * k) 1)) k := ⟨_, rfl⟩
      obtain ⟨q, hq⟩ : ∃ q, p0 + 1 * k = q := ⟨_, rfl⟩
      have HQ := Lib.hid hq
      rw [hq] at hS HE hq8
      have HN : Hid (∀ W, Calls Try.prog 33 #[.agg #[.string t, .int .i64 q, .int .i64 0], .int .i64 1] W fun e w' => e = .returned (.tuple #[.int .u64 (nmB t q 1), .agg #[.string t, .int .i64 ((q : Int) + 1), .int .i64 0]]) ∧ Below W.heap.size W w') := Lib.hid (fun W => by
        have := num_at t q 1 W HM.out (by omega) (by omega) hq8
        rw [show ((q + 1 : Nat) : Int) = (q : Int) + 1 from by omega] at this
        exact this)
      clear hq hval
      obtain ⟨s0, s1, s2, sf⟩ := hS.cells
      have HS := Lib.hid hS
      have HR := Lib.hid hR
      have HB := Lib.hid hb
      have HO := Lib.hid hop1
      clear hS hR hb hop hop1 hc1 hsz hcn
      have hxb := nmB_bd t q 1 hq8
      rw [p256_1] at hxb
      obtain ⟨x, hx⟩ : ∃ x, nmB t q 1 = x := ⟨_, rfl⟩
      have HX := Lib.hid hx
      rw [hx] at HN hxb
      have hwx : wrap64 x = x := by rw [IntWalk.wrap64_in _ (by omega)]
      have hwy : IntKind.i64.wrap x = x := by rw [IntKind.wrap_i64] <;> omega
      clear hx hq8
      go_wp2_with fail
      refine (HN.out _).mono ?_
      rintro e w2 ⟨rfl, hb2⟩
      have hS2 := HS.out.later hb2
      have hR2 := HR.out.later hb2
      obtain ⟨p, hp⟩ : ∃ p, ps k = p := ⟨_, rfl⟩
      have hO2 := HO.out.below hb2 (by omega)
      rw [hp] at hO2 hpb hsp ⊢
      have HPP := Lib.hid hp
      clear hp
      obtain ⟨pb, po, sp⟩ := p
      simp only at hsp hpb
      subst hsp
      obtain ⟨⟨u, o1⟩, o2⟩ := hO2
      obtain ⟨r0, r1, r2, rf⟩ := hS2.cells
      have hB2 := HB.out.trans (hb2.mono (by omega))
      have HS2 := Lib.hid hS2
      have HR2 := Lib.hid hR2
      have HB2 := Lib.hid hB2
      have hn1 : ¬ pb = w.heap.size := by omega
      have hn2 : ¬ w.heap.size = pb := by omega
      clear hb2 hS2 hR2 hB2 HS HR HB HO s0 s1 s2 sf
      go_wp2_with fail
      have hset : setsN w ps (fun k => .int .i64 (nmB t (p0 + 1 * k) 1)) (k + 1) = (setsN w ps (fun k => .int .i64 (nmB t (p0 + 1 * k) 1)) k).setCell ⟨pb, po, none⟩ (.int .i64 x) := by
        rw [setsN, HPP.out, HQ.out, HX.out]
      have HSET := Lib.hid hset
      clear hset
      go_roundw
      case rel =>
        refine ⟨k + 1, by omega, by go_num, ?_, ?_, ?_⟩
        · rw [HE.out]; exact HS2.out.on.apart hn2
        · exact (((HR2.out.apart (by simp)).apart (by simp)).apart (by simp)).apart (by simp; omega)
        · rw [HSET.out]; exact below_both (((HB2.out.setCell (Nat.le_refl _) _).setCell (Nat.le_refl _) _).setCell (Nat.le_refl _) _)
      case measure => simp [intOf]; omega
    · obtain rfl : k = m := by omega
      obtain ⟨q, hq⟩ : ∃ q, p0 + 1 * k = q := ⟨_, rfl⟩
      have HQ := Lib.hid hq
      rw [hq] at hS
      obtain ⟨r0, r1, r2, rf⟩ := hS.cells
      obtain ⟨t0, t1, t2, tf⟩ := hR.cells
      have HB := Lib.hid hb
      clear hS hR hb hq
      go_wp2_with fail
      refine bodyPost_ret (v := .agg #[.string t, .int .i64 q, .int .i64 0]) (by simp [results, Try.results52, go_sem, t0, t1, t2]) rfl ⟨by rw [HQ.out], ((HB.out.setCell (by simp) _).setCell (by simp) _).setCell (by simp) _⟩
set_option maxRecDepth 20000 in
theorem takeDeg_any (t : ByteArray) (p0 m : Nat) (v : Value) (ps : Nat → Addr) (w : World) (hm : t.size ≤ maxLen) (hv : PtrsAt w v ps m) (hp : ∀ i, i < m → OpenAt w (ps i) ∧ (ps i).block < w.heap.size) (hs : p0 + 4 * m ≤ t.size) :
    Calls Try.prog 53 #[.agg #[.string t, .int .i64 p0, .int .i64 0], v] w (TakeEnd w t (p0 + 4 * m) ps (fun k => .int .i64 (sgB t (p0 + 4 * k))) m) := by
  obtain ⟨c, cap, rfl, hc1, hc2, hc, hcell⟩ := hv
  have HC := Lib.hid hcell; clear hcell
  have HP := Lib.hid hp; clear hp
  have hml : m ≤ 9223372036854775807 := by unfold maxLen at hc2; omega
  have HM := Lib.hid hm; clear hm
  go_enter Try.func53, Try.ntmps53
  have hS0 : ScanAt ((w.alloc (.cells #[.string t, .int .i64 p0, .int .i64 0] 66)).alloc (.cells #[.string ⟨#[]⟩, .int .i64 0, .int .i64 0] 66)) w.heap.size t ((p0 + 4 * 0 : Nat) : Int) := ((Below.refl _ _).alloc (B := w.heap.size + 1) (by rw [World.size_alloc]; omega) _).block _ (by omega) |>.trans (heap_alloc_new w _)
  have hR0 : ScanAt ((w.alloc (.cells #[.string t, .int .i64 p0, .int .i64 0] 66)).alloc (.cells #[.string ⟨#[]⟩, .int .i64 0, .int .i64 0] 66)) (w.heap.size + 1) ⟨#[]⟩ 0 := by
    have := heap_alloc_new (w.alloc (.cells #[.string t, .int .i64 p0, .int .i64 0] 66)) (.cells #[.string ⟨#[]⟩, .int .i64 0, .int .i64 0] 66)
    rw [World.size_alloc] at this
    exact this
  have hB0 : Below w.heap.size w ((w.alloc (.cells #[.string t, .int .i64 p0, .int .i64 0] 66)).alloc (.cells #[.string ⟨#[]⟩, .int .i64 0, .int .i64 0] 66)) := ((Below.refl _ _).alloc (Nat.le_refl _) _).alloc (by rw [World.size_alloc]; omega) _
  have HS0 := Lib.hid hS0
  have HR0 := Lib.hid hR0
  have HB0 := Lib.hid hB0
  clear hS0 hR0 hB0
  go_wp2_with fail
  go_loopw [12] (fun i wr => ∃ k : Nat, k ≤ m ∧ i = .int .i64 k ∧ ScanAt wr w.heap.size t ((p0 + 4 * k : Nat) : Int) ∧ ScanAt wr (w.heap.size + 1) ⟨#[]⟩ 0 ∧ Below w.heap.size (setsN w ps (fun k => .int .i64 (sgB t (p0 + 4 * k))) k) wr) (fun i _ => m - (intOf i).toNat)
  case atStart => exact ⟨0, Nat.zero_le _, rfl, HS0.out, HR0.out, HB0.out⟩
  case round =>
    obtain ⟨k, hk, rfl, hS, hR, hb⟩ := hrel
    by_cases hlt : k < m
    · obtain ⟨hc1, hcn, hsp⟩ := HC.out k hlt
      obtain ⟨hop, hpb⟩ := HP.out k hlt
      have hsz : (setsN w ps (fun k => .int .i64 (sgB t (p0 + 4 * k))) k).heap.size = w.heap.size := setsN_size _ _ _ _
      have hrs := hb.size
      rw [hsz] at hrs
      have c1 := (hb.cell (p := ⟨c, k, none⟩) hc).trans ((setsN_cell _ _ _ _ _ (fun i hi => (HC.out i (by omega)).2.1)).trans hc1)
      have hop1 := (setsN_open w ps (fun k => .int .i64 (sgB t (p0 + 4 * k))) k _ hop).below hb hpb
      have HE : Hid (((p0 + 4 * (k + 1) : Nat) : Int) = ((p0 + 4 * k : Nat) : Int) + 4) := Lib.hid (by rw [Nat.mul_succ]; omega)
      have hq8 : p0 + 4 * k + 4 ≤ t.size := by have := Nat.mul_le_mul_left 4 (show k + 1 ≤ m from hlt); omega
      have hval : ∃ y : Value, y = (fun k => .int .i64 (sgB t (p0 + 4 * k))) k := ⟨_, rfl⟩
      obtain ⟨q, hq⟩ : ∃ q, p0 + 4 * k = q := ⟨_, rfl⟩
      have HQ := Lib.hid hq
      rw [hq] at hS HE hq8
      have HN : Hid (∀ W, Calls Try.prog 33 #[.agg #[.string t, .int .i64 q, .int .i64 0], .int .i64 4] W fun e w' => e = .returned (.tuple #[.int .u64 (nmB t q 4), .agg #[.string t, .int .i64 ((q : Int) + 4), .int .i64 0]]) ∧ Below W.heap.size W w') := Lib.hid (fun W => by
        have := num_at t q 4 W HM.out (by omega) (by omega) hq8
        rw [show ((q + 4 : Nat) : Int) = (q : Int) + 4 from by omega] at this
        exact this)
      clear hq hval
      obtain ⟨s0, s1, s2, sf⟩ := hS.cells
      have HS := Lib.hid hS
      have HR := Lib.hid hR
      have HB := Lib.hid hb
      have HO := Lib.hid hop1
      clear hS hR hb hop hop1 hc1 hsz hcn hq8
      have HX : Hid (sgn (nmB t q 4) 4 = sgB t q) := Lib.hid rfl
      obtain ⟨x, hx⟩ : ∃ x, nmB t q 4 = x := ⟨_, rfl⟩
      rw [hx] at HN HX
      have HG := Lib.hid (fun W => signed_yes x 4 W (by omega) (by omega))
      rw [HX.out] at HG
      obtain ⟨y, hy⟩ : ∃ y, sgB t q = y := ⟨_, rfl⟩
      rw [hy] at HG
      have HY := Lib.hid hy
      clear hy
      clear hx
      go_wp2_with fail
      refine (HN.out _).mono ?_
      rintro e w2 ⟨rfl, hb2⟩
      have hS2 := HS.out.later hb2
      have hR2 := HR.out.later hb2
      obtain ⟨p, hp⟩ : ∃ p, ps k = p := ⟨_, rfl⟩
      have hO2 := HO.out.below hb2 (by omega)
      rw [hp] at hO2 hpb hsp ⊢
      have HPP := Lib.hid hp
      clear hp
      obtain ⟨pb, po, sp⟩ := p
      simp only at hsp hpb
      subst hsp
      obtain ⟨⟨u, o1⟩, o2⟩ := hO2
      obtain ⟨r0, r1, r2, rf⟩ := hS2.cells
      have hB2 := HB.out.trans (hb2.mono (by omega))
      have HS2 := Lib.hid hS2
      have HR2 := Lib.hid hR2
      have HB2 := Lib.hid hB2
      have hn1 : ¬ pb = w.heap.size := by omega
      have hn2 : ¬ w.heap.size = pb := by omega
      clear hb2 hS2 hR2 hB2 HS HR HB HO s0 s1 s2 sf
      go_wp2_with fail
      refine (HG.out _).mono ?_
      rintro e w' ⟨rfl, rfl⟩
      go_wp2_with fail
      have hset : setsN w ps (fun k => .int .i64 (sgB t (p0 + 4 * k))) (k + 1) = (setsN w ps (fun k => .int .i64 (sgB t (p0 + 4 * k))) k).setCell ⟨pb, po, none⟩ (.int .i64 y) := by
        rw [setsN, HPP.out, HQ.out, HY.out]
      have HSET := Lib.hid hset
      clear hset
      go_roundw
      case rel =>
        refine ⟨k + 1, by omega, by go_num, ?_, ?_, ?_⟩
        · rw [HE.out]; exact HS2.out.on.apart hn2
        · exact (((HR2.out.apart (by simp)).apart (by simp)).apart (by simp)).apart (by simp; omega)
        · rw [HSET.out]; exact below_both (((HB2.out.setCell (Nat.le_refl _) _).setCell (Nat.le_refl _) _).setCell (Nat.le_refl _) _)
      case measure => simp [intOf]; omega
    · obtain rfl : k = m := by omega
      obtain ⟨q, hq⟩ : ∃ q, p0 + 4 * k = q := ⟨_, rfl⟩
      have HQ := Lib.hid hq
      rw [hq] at hS
      obtain ⟨r0, r1, r2, rf⟩ := hS.cells
      obtain ⟨t0, t1, t2, tf⟩ := hR.cells
      have HB := Lib.hid hb
      clear hS hR hb hq
      go_wp2_with fail
      refine bodyPost_ret (v := .agg #[.string t, .int .i64 q, .int .i64 0]) (by simp [results, Try.results53, go_sem, t0, t1, t2]) rfl ⟨by rw [HQ.out], ((HB.out.setCell (by simp) _).setCell (by simp) _).setCell (by simp) _⟩
end Go.Proofs.Ytodjdeilaimjaaa
