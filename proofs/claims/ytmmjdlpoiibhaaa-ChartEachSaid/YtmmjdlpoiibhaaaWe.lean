/- The walk of ChartEach. -/
import Derived.Test.YtmmjdlpoiibhaaaTd
import Derived.Test.YtmmjdlpoiibhaaaLx
namespace Go.Proofs.Ytmmjdlpoiibhaaa
open Go.RowKit Go.Shelf
set_option maxRecDepth 20000
set_option linter.unusedVariables false
set_option linter.unusedSimpArgs false
attribute [local go_sem] Oper.semAt_some
/-- What stands in a call of ChartEach: the parameters' boxes, the result's, the chart's. -/
structure EchS (w W : World) (most xi : Nat) (xt : ByteArray) (C : Nat) (s : Value) (L : List It) : Prop where
  bm : Boxed W w.heap.size 5 (.int .u8 (most : Int))
  bx : Two W (w.heap.size + 1) (.int .u64 xi) (.string xt)
  br : Boxed W (w.heap.size + 1 + 1) 4 (.bool false)
  bc : Boxed W C 26 s
  ch : ChS W s L
  lc : w.heap.size + 1 + 1 < C
  bel : Below w.heap.size w W
theorem EchS.below {w W W' : World} {most xi : Nat} {xt : ByteArray} {C : Nat} {s : Value} {L : List It} (h : EchS w W most xi xt C s L) (hb : Below W.heap.size W W') : EchS w W' most xi xt C s L :=
  ⟨boxed_later h.bm hb, h.bx.below hb, boxed_later h.br hb, boxed_later h.bc hb, h.ch.below hb, h.lc, h.bel.trans (hb.mono h.bel.size)⟩
/-- And the row of all items. -/
structure EchA (w W : World) (most xi : Nat) (xt : ByteArray) (C A : Nat) (s va : Value) (L : List It) : Prop where
  st : EchS w W most xi xt C s L
  ba : Boxed W A 24 va
  its : ItsAt W va L
  la : C < A
theorem EchA.below {w W W' : World} {most xi : Nat} {xt : ByteArray} {C A : Nat} {s va : Value} {L : List It} (h : EchA w W most xi xt C A s va L) (hb : Below W.heap.size W W') : EchA w W' most xi xt C A s va L :=
  ⟨h.st.below hb, boxed_later h.ba hb, h.its.below hb, h.la⟩
theorem Two.far {W : World} {g A : Nat} {x y : Value} (h : Two W g x y) (hne : A ≠ g) (u : Value) : Two (W.setCell ⟨A, 0, none⟩ u) g x y :=
  ⟨(World.cell?_setCell_far W ⟨A, 0, none⟩ ⟨g, 0, none⟩ u hne).trans h.1, (World.cell?_setCell_far W ⟨A, 0, none⟩ ⟨g, 1, none⟩ u hne).trans h.2.1, by simpa using h.2.2.1, by simpa using h.2.2.2⟩
theorem EchS.set {w W : World} {most xi : Nat} {xt : ByteArray} {C A : Nat} {s x : Value} {L : List It} (h : EchS w W most xi xt C s L) (ho : One W A x) (hA : C < A) (x' : Value) : EchS w (W.setCell ⟨A, 0, none⟩ x') most xi xt C s L := by
  have := h.lc
  exact ⟨h.bm.other (by omega) _, h.bx.far (by omega) _, h.br.other (by omega) _, h.bc.other (by omega) _, h.ch.set ho _, h.lc, h.bel.setCell (p := ⟨A, 0, none⟩) (by show w.heap.size ≤ A; omega) _⟩
theorem arr142 (t : Array Value) (h : t.size = 142) : t = #[t.getD 0 undef, t.getD 1 undef, t.getD 2 undef, t.getD 3 undef, t.getD 4 undef, t.getD 5 undef, t.getD 6 undef, t.getD 7 undef, t.getD 8 undef, t.getD 9 undef, t.getD 10 undef, t.getD 11 undef, t.getD 12 undef, t.getD 13 undef, t.getD 14 undef, t.getD 15 undef, t.getD 16 undef, t.getD 17 undef, t.getD 18 undef, t.getD 19 undef, t.getD 20 undef, t.getD 21 undef, t.getD 22 undef, t.getD 23 undef, t.getD 24 undef, t.getD 25 undef, t.getD 26 undef, t.getD 27 undef, t.getD 28 undef, t.getD 29 undef, t.getD 30 undef, t.getD 31 undef, t.getD 32 undef, t.getD 33 undef, t.getD 34 undef, t.getD 35 undef, t.getD 36 undef, t.getD 37 undef, t.getD 38 undef, t.getD 39 undef, t.getD 40 undef, t.getD 41 undef, t.getD 42 undef, t.getD 43 undef, t.getD 44 undef, t.getD 45 undef, t.getD 46 undef, t.getD 47 undef, t.getD 48 undef, t.getD 49 undef, t.getD 50 undef, t.getD 51 undef, t.getD 52 undef, t.getD 53 undef, t.getD 54 undef, t.getD 55 undef, t.getD 56 undef, t.getD 57 undef, t.getD 58 undef, t.getD 59 undef, t.getD 60 undef, t.getD 61 undef, t.getD 62 undef, t.getD 63 undef, t.getD 64 undef, t.getD 65 undef, t.getD 66 undef, t.getD 67 undef, t.getD 68 undef, t.getD 69 undef, t.getD 70 undef, t.getD 71 undef, t.getD 72 undef, t.getD 73 undef, t.getD 74 undef, t.getD 75 undef, t.getD 76 undef, t.getD 77 undef, t.getD 78 undef, t.getD 79 undef, t.getD 80 undef, t.getD 81 undef, t.getD 82 undef, t.getD 83 undef, t.getD 84 undef, t.getD 85 undef, t.getD 86 undef, t.getD 87 undef, t.getD 88 undef, t.getD 89 undef, t.getD 90 undef, t.getD 91 undef, t.getD 92 undef, t.getD 93 undef, t.getD 94 undef, t.getD 95 undef, t.getD 96 undef, t.getD 97 undef, t.getD 98 undef, t.getD 99 undef, t.getD 100 undef, t.getD 101 undef, t.getD 102 undef, t.getD 103 undef, t.getD 104 undef, t.getD 105 undef, t.getD 106 undef, t.getD 107 undef, t.getD 108 undef, t.getD 109 undef, t.getD 110 undef, t.getD 111 undef, t.getD 112 undef, t.getD 113 undef, t.getD 114 undef, t.getD 115 undef, t.getD 116 undef, t.getD 117 undef, t.getD 118 undef, t.getD 119 undef, t.getD 120 undef, t.getD 121 undef, t.getD 122 undef, t.getD 123 undef, t.getD 124 undef, t.getD 125 undef, t.getD 126 undef, t.getD 127 undef, t.getD 128 undef, t.getD 129 undef, t.getD 130 undef, t.getD 131 undef, t.getD 132 undef, t.getD 133 undef, t.getD 134 undef, t.getD 135 undef, t.getD 136 undef, t.getD 137 undef, t.getD 138 undef, t.getD 139 undef, t.getD 140 undef, t.getD 141 undef] := by
  have e : t = ((List.range 142).map (fun k => t.getD k undef)).toArray := by
    apply Array.ext
    · simp [h]
    · intro i h1 h2
      simp [h1]
  exact e
theorem undef_nb (b : Bool) : ¬ some undef = some (Value.bool b) := by
  intro h
  cases h
/-- What holds where a new going through begins. -/
def HeadE (n0 most xi : Nat) (xt : ByteArray) (w : World) (a0 : Option Addr) (c0 C A B0 : Nat) (X : World) (a : Act) (wr : World) : Prop :=
  ∃ (i : Nat) (Ds : List Nat), i ≤ 2 ∧ Hid (Below X.heap.size X wr) ∧ Hid (MkAt Ds wr ∧ Ds.Nodup ∧ ∀ D, D ∈ Ds → X.heap.size ≤ D) ∧ ∃ u : Nat → Value, a = { tmps := #[.slice a0 n0 c0, .int .u8 (most : Int), .agg #[.int .u64 xi, .string xt], u 3, .pointer (some ⟨w.heap.size, 0, none⟩), .pointer (some ⟨w.heap.size + 1, 0, none⟩), .pointer (some ⟨w.heap.size + 1 + 1, 0, none⟩), .pointer (some ⟨C, 0, none⟩), u 8, .pointer (some ⟨A, 0, none⟩), .func (.func 45) #[] #[.pointer (some ⟨B0, 0, none⟩)], .int .i64 (i : Int), u 12, u 13, u 14, u 15, u 16, u 17, u 18, u 19, u 20, u 21, u 22, u 23, u 24, u 25, u 26, u 27, u 28, u 29, u 30, u 31, u 32, u 33, u 34, u 35, u 36, u 37, u 38, u 39, u 40, u 41, u 42, u 43, u 44, u 45, u 46, u 47, u 48, u 49, u 50, u 51, u 52, u 53, u 54, u 55, u 56, u 57, u 58, u 59, u 60, u 61, u 62, u 63, u 64, u 65, u 66, u 67, u 68, u 69, u 70, u 71, u 72, u 73, u 74, u 75, u 76, u 77, u 78, u 79, u 80, u 81, u 82, u 83, u 84, u 85, u 86, u 87, u 88, u 89, u 90, u 91, u 92, u 93, u 94, u 95, u 96, u 97, u 98, u 99, u 100, u 101, u 102, u 103, u 104, u 105, u 106, u 107, u 108, u 109, u 110, u 111, u 112, u 113, u 114, u 115, u 116, u 117, u 118, u 119, u 120, u 121, u 122, u 123, u 124, u 125, u 126, u 127, u 128, u 129, u 130, u 131, u 132, u 133, u 134, u 135, u 136, u 137, u 138, u 139, u 140, u 141], defers := mksD Ds }
theorem headE_intro (n0 most xi : Nat) (xt : ByteArray) (w : World) (a0 : Option Addr) (c0 C A B0 : Nat) (X wr : World) (i : Nat) (Ds : List Nat) (t : Array Value) (hi : i ≤ 2) (hb : Below X.heap.size X wr) (hm : MkAt Ds wr ∧ Ds.Nodup ∧ ∀ D, D ∈ Ds → X.heap.size ≤ D) (ht : t.size = 142) (h0 : t.getD 0 undef = .slice a0 n0 c0) (h1 : t.getD 1 undef = .int .u8 (most : Int)) (h2 : t.getD 2 undef = .agg #[.int .u64 xi, .string xt]) (h4 : t.getD 4 undef = .pointer (some ⟨w.heap.size, 0, none⟩)) (h5 : t.getD 5 undef = .pointer (some ⟨w.heap.size + 1, 0, none⟩)) (h6 : t.getD 6 undef = .pointer (some ⟨w.heap.size + 1 + 1, 0, none⟩)) (h7 : t.getD 7 undef = .pointer (some ⟨C, 0, none⟩)) (h9 : t.getD 9 undef = .pointer (some ⟨A, 0, none⟩)) (h10 : t.getD 10 undef = .func (.func 45) #[] #[.pointer (some ⟨B0, 0, none⟩)]) (h11 : t.getD 11 undef = .int .i64 (i : Int)) :
    HeadE n0 most xi xt w a0 c0 C A B0 X { tmps := t, defers := mksD Ds } wr := by
  refine ⟨i, Ds, hi, Lib.hid hb, Lib.hid hm, fun k => t.getD k undef, ?_⟩
  have e := arr142 t ht
  rw [h0, h1, h2, h4, h5, h6, h7, h9, h10, h11] at e
  exact congrArg (fun x => ({ tmps := x, defers := mksD Ds } : Act)) e
theorem each_leaves {tmps : Array Value} {w W W5 : World} {Ds : List Nat} (hR : Boxed W (w.heap.size + 1 + 1) 4 (.bool false)) (hlt : w.heap.size + 1 + 1 < W5.heap.size) (hb : Below w.heap.size w W) (hm : MkAt Ds W) (hn : Ds.Nodup) (hD : ∀ D, D ∈ Ds → W5.heap.size ≤ D) (hp : tmps.getD 6 undef = .pointer (some ⟨w.heap.size + 1 + 1, 0, none⟩)) :
    LeavesInM Fence.wide 10 Try.prog Try.f7 tmps (fun e w' => e = .returned (.bool true) ∧ Below w.heap.size w w') (mksD Ds) .returning (W.setCell ⟨w.heap.size + 1 + 1, 0, none⟩ (.bool true)) := by
  refine leaves_marks (fun W => Boxed W (w.heap.size + 1 + 1) 4 (.bool true) ∧ Below w.heap.size w W) Ds _ (fun D hd => ?_) hn ⟨hR.set _, hb.setCell (p := ⟨w.heap.size + 1 + 1, 0, none⟩) (by show w.heap.size ≤ w.heap.size + 1 + 1; omega) _⟩ (fun Y D hd hY hp => ⟨?_, ?_⟩) ?_
  · refine (Below.heap_setCell _ _ _ D (fun e => ?_)).trans (hm D hd)
    have := hD D hd
    dsimp only at e
    omega
  · exact hp.1.kept (grownBy_putObj' Y D _) (fun e => by
      have := hD D hd
      have e' : w.heap.size + 1 + 1 = D := by simpa using e
      omega)
  · exact (bears_below (β := Unit) (T := fun _ => False) (Nat.le_refl _) (B := w.heap.size) (Nat.le_refl _) (fun _ h => h.elim)).put (s := ()) hp.2 _ (by have := hD D hd; omega) hY rfl
  · rintro W' ⟨h5, h6⟩
    exact ⟨_, res_cell6 rfl _ _ _ true hp h5, rfl, h6⟩
theorem del_put (xi : Nat) (xt : ByteArray) {L : List It} (hr : Rise L) : delI xi (putI xi xt L) = delI xi L := by
  refine rise_ext (del_rise (put_rise xi xt hr)) (del_rise hr) (fun t => ?_)
  rw [mem_del, mem_del, mem_put]
  constructor
  · rintro ⟨rfl | h, hn⟩
    · exact absurd rfl hn
    · exact h
  · rintro ⟨h, hn⟩
    exact ⟨.inr ⟨h, hn⟩, hn⟩
theorem get_put (xi : Nat) (xt : ByteArray) {L : List It} (hr : Rise L) : getI xi (putI xi xt L) = some xt := by
  obtain ⟨k, hk⟩ := List.mem_iff_getElem?.1 ((mem_put xi xt L (xi, xt)).2 (.inl rfl))
  exact get_at (put_rise xi xt hr) k (xi, xt) hk
theorem MkAt.below {Ds : List Nat} {W W' : World} (h : MkAt Ds W) (hb : Below W.heap.size W W') : MkAt Ds W' := fun D hD => (hb.block D (hlt_of (h D hD))).trans (h D hD)
/-- Each, with the box that it hands on. -/
theorem each_box (s : Value) (l : List It) (w : World) (h : ChS w s l) :
    Calls Try.prog 29 #[.agg #[s]] w fun e w' => ∃ B0, e = .returned (.func (.func 45) #[] #[.pointer (some ⟨B0, 0, none⟩)]) ∧ Boxed w' B0 26 s ∧ w.heap.size ≤ B0 ∧ Below w.heap.size w w' := by
  have HN := Lib.hid (Boxed.new w 26 s)
  obtain ⟨a, n, c, rfl⟩ := h.form
  clear h
  go_enter Try.func29, Try.ntmps29
  go_wp2_with fail
  go_ret
  exact ⟨_, rfl, HN.out, Nat.le_refl _, by go_grown⟩
theorem items_form (s : Value) (l : List It) (w : World) (h : ChS w s l) :
    Calls Try.prog 13 #[.agg #[s]] w fun e w' => ∃ a c, e = .returned (.slice a l.length c) ∧ ItsAt w' (.slice a l.length c) l ∧ Below w.heap.size w w' :=
  (items_any s l w h).mono (fun e w' h => by
    obtain ⟨v, rfl, hv, hb⟩ := h
    obtain ⟨a, c, rfl, _⟩ := id hv
    exact ⟨a, c, rfl, hv, hb⟩)
set_option maxRecDepth 100000 in
set_option maxHeartbeats 10000000 in
theorem charteach_law (v : Value) (l : List It) (most : Nat) (x : It) (w : World) (hv : ItsAt w v l) (hm : most < 256) (hxi : x.1 < 18446744073709551616) (hxt : x.2.size ≤ maxLen) (hid : ∀ t ∈ l, t.1 < 18446744073709551616) (hsz : ∀ t ∈ l, t.2.size ≤ maxLen) :
    Calls Try.prog 7 #[v, .int .u8 most, .agg #[.int .u64 x.1, .string x.2]] w fun e w' => e = .returned (.bool true) ∧ Below w.heap.size w w' := by
  obtain ⟨xi, xt⟩ := x
  dsimp only at hxi hxt ⊢
  have HA := Lib.hid awakeC_any
  have HOV := Lib.hid (fun X (hX : Below w.heap.size w X) => over_any v l 60 3000 X (hv.below hX) hsz (by omega) (by omega))
  have HOW := Lib.hid (fun X (hX : Below w.heap.size w X) (hl : l.length ≤ 10000) => own_any v l X (hv.below hX) hl hid hsz)
  obtain ⟨a0, c0, rfl, -, -, -⟩ := hv
  clear hid hsz
  refine (callsIn_wide (n := 10)).1 ?_
  refine callsIn_of_wp_marks Try.func7 rfl trivial ?_ rfl
  simp only [Try.ntmps7, List.size_toArray, List.length_cons, List.length_nil, Nat.reduceAdd, Nat.reduceSub, Array.replicate_succ, Array.replicate_zero, List.push_toArray, List.append_toArray, List.nil_append, List.cons_append]
  obtain ⟨W0, hW0⟩ : ∃ W0, ((w.alloc (.cells #[.int .u8 (most : Int)] 5)).alloc (.cells #[.int .u64 xi, .string xt] 53)).alloc (.cells #[.bool false] 4) = W0 := ⟨_, rfl⟩
  have hsz0 : W0.heap.size = w.heap.size + 3 := by rw [← hW0]; simp
  have HM0 : Hid (Boxed W0 w.heap.size 5 (.int .u8 (most : Int))) := by rw [← hW0]; exact Lib.hid (((Boxed.new w 5 (.int .u8 (most : Int))).alloc _).alloc _)
  have HX0 : Hid (Two W0 (w.heap.size + 1) (.int .u64 xi) (.string xt)) := by
    have h := two_new (w.alloc (.cells #[.int .u8 (most : Int)] 5)) (.int .u64 xi) (.string xt) 53
    rw [World.size_alloc] at h
    rw [← hW0]
    exact Lib.hid (h.alloc _)
  have HR0 : Hid (Boxed W0 (w.heap.size + 1 + 1) 4 (.bool false)) := by
    have h := Boxed.new ((w.alloc (.cells #[.int .u8 (most : Int)] 5)).alloc (.cells #[.int .u64 xi, .string xt] 53)) 4 (.bool false)
    simp only [World.size_alloc] at h
    rw [← hW0]
    exact Lib.hid h
  have HB0 : Hid (Below w.heap.size w W0) := by rw [← hW0]; exact Lib.hid (by go_grown)
  gi_wp2
  clear hW0
  obtain ⟨cX0, cX1, _, _⟩ := HX0.out
  obtain ⟨ov, hov⟩ : ∃ ov, overI l 60 3000 = ov := ⟨_, rfl⟩
  rw [hov] at HOV
  refine ⟨trivial, (callsIn_wide.2 (HOV.out _ HB0.out)).mono ?_⟩
  rintro y w1 ⟨rfl, rfl⟩
  cases ov with
  | true =>
    clear hov
    gi_wp2
    refine ⟨trivial, (callsIn_wide.2 (HA.out _)).mono ?_⟩
    rintro y w1 ⟨rfl, hb⟩
    have bR1 := boxed_later HR0.out hb
    have hB1 := HB0.out.trans (hb.mono HB0.out.size)
    have cR := bR1.cell
    have fR := bR1.frozen
    clear hb
    gi_wp2
    exact ⟨_, res_cell6 rfl _ _ _ true rfl (bR1.set _), rfl, hB1.setCell (p := ⟨w.heap.size + 1 + 1, 0, none⟩) (by simp; omega) _⟩
  | false =>
    by_cases g2 : 300 < xt.size
    · have d1 : (300 : Int) < (xt.size : Int) := by omega
      clear hov g2
      gi_wp2
      refine ⟨trivial, (callsIn_wide.2 (HA.out _)).mono ?_⟩
      rintro y w1 ⟨rfl, hb⟩
      have bR1 := boxed_later HR0.out hb
      have hB1 := HB0.out.trans (hb.mono HB0.out.size)
      have cR := bR1.cell
      have fR := bR1.frozen
      clear hb
      gi_wp2
      exact ⟨_, res_cell6 rfl _ _ _ true rfl (bR1.set _), rfl, hB1.setCell (p := ⟨w.heap.size + 1 + 1, 0, none⟩) (by simp; omega) _⟩
    · have d1 : ¬ (300 : Int) < (xt.size : Int) := by omega
      have hl60 : l.length ≤ 60 := by
        unfold overI at hov
        rw [Bool.or_eq_false_iff] at hov
        have := hov.2
        simp at this
        omega
      clear hov
      gi_wp2
      refine ⟨trivial, (callsIn_wide.2 (HOW.out _ HB0.out (by omega))).mono ?_⟩
      rintro y w1 ⟨s1, dv, rfl, hch, hdv, hb⟩
      clear hdv HOV HOW
      obtain ⟨L, hL⟩ : ∃ L, ownI l = L := ⟨_, rfl⟩
      rw [hL] at hch
      clear hL
      obtain ⟨a7, n7, p7, rfl⟩ := hch.form
      have hC : w.heap.size + 1 + 1 < w1.heap.size := (boxed_later HR0.out hb).lt
      have HE1 : Hid (EchS w (w1.alloc (.cells #[.slice a7 n7 p7] 26)) most xi xt w1.heap.size (.slice a7 n7 p7) L) := by
        have hba := below_one w1 (.cells #[.slice a7 n7 p7] 26)
        have hbb := hb.trans (hba.mono hb.size)
        exact Lib.hid ⟨boxed_later HM0.out hbb, HX0.out.below hbb, boxed_later HR0.out hbb, Boxed.new w1 _ _, hch.below hba, hC, HB0.out.trans (hbb.mono HB0.out.size)⟩
      clear hch hb HM0 HX0 HR0 HB0 cX0 cX1 hsz0
      gi_wp2
      refine wpIn_wide.2 ?_
      generalize hW2 : w1.alloc (.cells #[.slice a7 n7 p7] 26) = W2 at *
      generalize hCC : w1.heap.size = C at *
      have hsz2 : C < W2.heap.size := HE1.out.bc.lt
      have cC := HE1.out.bc.cell
      have cCa : ∀ O, (W2.alloc O).cell? ⟨C, 0, none⟩ = _ := fun O => (HE1.out.bc.alloc O).cell
      have HIT := Lib.hid (fun X (hX : Below W2.heap.size W2 X) => items_form _ L X (HE1.out.ch.below hX))
      have HEB := Lib.hid (fun X (hX : Below W2.heap.size W2 X) => each_box _ L X (HE1.out.ch.below hX))
      clear hW2 hCC hC
      go_cut [9, 10] from 33 to 36 (fun p f wx => ∃ A va B0, p = .pointer (some ⟨A, 0, none⟩) ∧ f = .func (.func 45) #[] #[.pointer (some ⟨B0, 0, none⟩)] ∧ EchA w wx most xi xt C A (.slice a7 n7 p7) va L ∧ Boxed wx B0 26 (.slice a7 n7 p7))
      case first =>
        refine Code.wp_mono normOnly_to ?_
        go_region_with (first | (go_at_call 13; refine (HIT.out _ (by go_grown)).mono ?_; rintro e w3 ⟨a8, c8, rfl, hva, hb3⟩; have hbb3 : Below W2.heap.size W2 w3 := (by go_grown : Below W2.heap.size W2 _).trans (hb3.mono (by simp)); have k3 := (HE1.out.below hbb3).bc.cell; have k3a : ∀ O, (w3.alloc O).cell? ⟨C, 0, none⟩ = _ := fun O => ((HE1.out.below hbb3).bc.alloc O).cell; try (have oA : Boxed w3 W2.heap.size 24 (.slice none 0 0) := boxed_later (Boxed.new W2.drew 24 (.slice none 0 0)) hb3)) | (go_at_call 29; go_loud (refine (HEB.out _ (by first | exact hbb3 | exact hbb3.alloc hbb3.size _)).mono ?_; rintro e w4 ⟨B0, rfl, hB0, hBg, hb4⟩; have hbb4 : Below w3.heap.size w3 w4 := (by first | exact hb4 | exact ((Below.refl _ _).alloc (Nat.le_refl _) _).trans (hb4.mono (by simp))); first | (have oA4 := boxed_later oA hbb4; have z0 := oA4.cell; have z1 := oA4.frozen) | (have oB4 : Boxed w4 w3.heap.size 24 (.slice none 0 0) := boxed_later (Boxed.new w3 24 (.slice none 0 0)) hb4; have z0 := oB4.cell; have z1 := oB4.frozen) | (have z0 : w4 = w4 := rfl))))
        all_goals
          dsimp only [normOnly]
          go_wp2_with fail
          go_meet
          case rel =>
            have hs3 := hbb3.size
            have hs4 := hbb4.size
            have hF := (HE1.out.below hbb3).below hbb4
            have hI := hva.below hbb4
            first
            | exact ⟨_, _, _, rfl, rfl, ⟨hF.below (below_one _ _), Boxed.new _ _ _, hI.below (below_one _ _), by omega⟩, Boxed.alloc hB0 _⟩
            | exact ⟨_, _, _, rfl, rfl, ⟨hF.set (Boxed.one oB4) (by omega) _, Boxed.set _ oB4, hI.set (Boxed.one oB4) _, by omega⟩, Boxed.other hB0 (by have h := hBg; rw [World.size_alloc] at h; omega) _⟩
            | exact ⟨_, _, _, rfl, rfl, ⟨hF.set (Boxed.one oA4) (by omega) _, Boxed.set _ oA4, hI.set (Boxed.one oA4) _, by omega⟩, Boxed.other hB0 (by have := Boxed.lt oA; omega) _⟩
      case rest =>
        obtain ⟨A, va, B0, rfl, rfl, hA, hB0⟩ := hcut
        generalize wc = W5 at *
        have H5 := Lib.hid hA
        have HB5 := Lib.hid hB0
        have hva : ∃ a c, va = .slice a L.length c := by obtain ⟨a, c, e, _⟩ := hA.its; exact ⟨_, _, e⟩
        obtain ⟨a8, c8, rfl⟩ := hva
        have hfn := fun W => fnC_eql 45 #[.pointer (some ⟨B0, 0, none⟩)] W
        clear hA hB0 HIT HEB cC cCa
        -- the loop
        gi_wp2
        generalize hn0 : l.length = n0 at *
        refine wpIn_loop (HeadE n0 most xi xt w a0 c0 C A B0 W5) (fun a _ => 2 - (intOf (a.tmps.getD 11 undef)).toNat) ?h0 ?round
        case h0 => exact headE_intro n0 most xi xt w a0 c0 C A B0 W5 W5 0 [] _ (by omega) (Below.refl _ _) ⟨fun D h => by simp at h, List.nodup_nil, fun D h => by simp at h⟩ rfl rfl rfl rfl rfl rfl rfl rfl rfl rfl rfl
        case round =>
          rintro a wr ⟨i, Ds, hi, HBr, HMk, u, rfl⟩
          have hsr := HBr.out.size
          have HR := Lib.hid (H5.out.below HBr.out)
          have HBR := Lib.hid (boxed_later HB5.out HBr.out)
          by_cases hi2 : i < 2
          · have hii : (i : Int) < 2 := by omega
            gi_wp2
            have hb2 : Below wr.heap.size wr (wr.alloc (.cells #[.int .i64 0] 3)) := below_one _ _
            have bN0 := Boxed.new wr 3 (.int .i64 0)
            obtain ⟨W1, hW1⟩ : ∃ W1, wr.alloc (.cells #[.int .i64 0] 3) = W1 := ⟨_, rfl⟩
            have hz1 : W1.heap.size = wr.heap.size + 1 := by rw [← hW1]; simp
            rw [hW1] at hb2 bN0 ⊢
            clear hW1
            have hV1 := (HR.out.below hb2).st.ch.its
            have hB1 := boxed_later HBR.out hb2
            have hVV : ∀ b, VC B0 (.slice a7 n7 p7) L b → b < wr.heap.size := fun b hb => by
              rcases hb with rfl | ⟨hl, a, n, c, e, rfl⟩
              · exact HBR.out.lt
              · obtain ⟨a', cap, e', _, _, hcc⟩ := HR.out.st.ch.its
                rw [e] at e'
                cases e'
                obtain ⟨t0, ht0⟩ : ∃ t, L[0]? = some t := ⟨_, List.getElem?_eq_getElem (by cases L with | nil => exact absurd rfl hl | cons _ _ => simp)⟩
                obtain ⟨g, off, ha, hg, _⟩ := hcc 0 t0 ht0
                cases ha
                exact hg
            refine range_d2 (n := 10) (val := fun k => .int .u64 (idC L k)) (va2 := fun k => .string (txC L k)) (r := 13) (s := 14) rfl (enters_of Try.func45 (by kernel_rfl) rfl) (peach1_seq (.slice a7 n7 p7) L B0 W1 hV1 hB1.cell).toY (Below.refl _ _) (fun _ h => h.elim) ?hV
              (fun k S W => (Boxed W wr.heap.size 3 (.int .i64 (k : Int)) ∧ Below wr.heap.size wr W) ∧ ∀ b, S b ↔ b = wr.heap.size)
              (fun c k W => (c = .exit 2 ∧ k = most) ∧ Boxed W wr.heap.size 3 (.int .i64 (k : Int)) ∧ Below wr.heap.size wr W) ?hI ?hIx ?hG (fun b => b = wr.heap.size) ?hS0 ?h0 (fun _ _ _ _ _ _ _ _ => trivial) (fun _ _ _ _ _ _ _ _ _ => trivial) ?assign ?body ?done ?stop
            case hV => intro r hr; have := hVV r hr; omega
            case hI => exact Bears.and (Bears.and (boxed_bears _ _ (fun (s : Nat × (Nat → Prop)) => .int .i64 (s.1 : Int)) _) (bears_below (Nat.le_refl _) (by omega) (fun _ h => h.elim))) (fun _ _ _ _ h _ _ => h)
            case hIx => exact fun c => Bears.and (fun _ _ _ _ h _ _ => h) (Bears.and (boxed_bears _ _ (fun (s : Nat) => .int .i64 (s : Int)) _) (bears_below (Nat.le_refl _) (by omega) (fun _ h => h.elim)))
            case hG =>
              rintro k S W ⟨⟨b1, hB⟩, hS⟩
              have l1 := b1.lt
              exact ⟨trivial, fun b hb => by obtain rfl := (hS b).1 hb; exact l1⟩
            case hS0 =>
              intro b hb
              subst hb
              refine ⟨by omega, fun h => ?_⟩
              have := hVV _ h
              omega
            case h0 => exact ⟨⟨bN0, hb2⟩, fun b => Iff.rfl⟩
            case assign =>
              intro lq k W' K hK
              simp only [List.setIfInBounds_toArray, List.set_cons_zero, List.set_cons_succ] at hK ⊢
              gi_wp2
              exact hK
            case body =>
              rintro lq k S W hlq ⟨⟨bN, hB⟩, hS⟩ - hk
              obtain ⟨⟨x, t⟩, hxk⟩ : ∃ t, L[k]? = some t := ⟨_, List.getElem?_eq_getElem hk⟩
              have hidk : idC L k = (x : Int) := by unfold idC; rw [List.getD_eq_getElem?_getD, hxk]; rfl
              have htxk : txC L k = t := by unfold txC; rw [List.getD_eq_getElem?_getD, hxk]; rfl
              have hA2 := HR.out.below hB
              have cA := hA2.ba.cell
              have cN := bN.cell
              have fN := bN.frozen
              have cM := hA2.st.bm.cell
              have hfew := hA2.st.ch.good.few
              obtain ⟨a', cap, e, _, _, hc⟩ := hA2.its
              cases e
              obtain ⟨g, off, rfl, hg, l0, l1⟩ := hc k _ hxk
              have HI := Lib.hid (And.intro bN (And.intro hB hS))
              have hki : (k : Int) < (L.length : Int) := by omega
              have hkd : decide ((L.length : Int) ≤ (k : Int)) = false := by rw [decide_eq_false_iff_not]; omega
              have hkn : ¬ (L.length : Int) ≤ (k : Int) := by omega
              have hw1 : IntKind.i64.wrap ((k : Int) + 1) = (k : Int) + 1 := by rw [IntKind.wrap_i64] <;> omega
              have hwm : IntKind.i64.wrap (most : Int) = (most : Int) := by rw [IntKind.wrap_i64] <;> omega
              have hwk : IntKind.i64.wrap (k : Int) = (k : Int) := by rw [IntKind.wrap_i64] <;> omega
              have hne1 : w.heap.size < wr.heap.size := HR.out.st.bm.lt
              rw [hidk, htxk]
              clear hidk htxk hA2 bN hB hS hc hxk
              simp only [List.setIfInBounds_toArray, List.set_cons_zero, List.set_cons_succ]
              by_cases hK1 : k + 1 = most
              · have hkm : ((k : Int) + 1 == (most : Int)) = true := by simp; omega
                have HK1 := Lib.hid hK1
                clear hK1
                gi_wp2
                exact ⟨⟨⟨rfl, HK1.out⟩, (by push_cast; exact HI.out.1.set (.int .i64 ((k : Int) + 1))), HI.out.2.1.setCell (p := ⟨wr.heap.size, 0, none⟩) (Nat.le_refl _) _⟩, S, KeepsS.setCell S W ⟨wr.heap.size, 0, none⟩ (.int .i64 ((k : Int) + 1)) ((HI.out.2.2 _).2 rfl)⟩
              · have hkm : ((k : Int) + 1 == (most : Int)) = false := by simp; omega
                have HK1 := Lib.hid hK1
                clear hK1
                gi_wp2
                exact ⟨S, ⟨⟨(by push_cast; exact HI.out.1.set (.int .i64 ((k : Int) + 1))), HI.out.2.1.setCell (p := ⟨wr.heap.size, 0, none⟩) (Nat.le_refl _) _⟩, HI.out.2.2⟩, KeepsS.setCell S W ⟨wr.heap.size, 0, none⟩ (.int .i64 ((k : Int) + 1)) ((HI.out.2.2 _).2 rfl)⟩
            case done =>
              rintro D S W hD hSD ⟨⟨bN, hB⟩, hS⟩ - hDW
              have hA2 := HR.out.below hB
              have cA := hA2.ba.cell
              have cN := bN.cell
              have cM := hA2.st.bm.cell
              have hwm : IntKind.i64.wrap (most : Int) = (most : Int) := by rw [IntKind.wrap_i64] <;> omega
              have HH := Lib.hid (And.intro hD (And.intro hDW hB))
              have hw2 : IntKind.i64.wrap ((i : Int) + 1) = (i : Int) + 1 := by rw [IntKind.wrap_i64] <;> omega
              clear bN hB hS hDW hD hSD hA2
              gi_wp2
              all_goals first
                | (rename_i h1 h2; exact absurd h1 (undef_nb _))
                | (have hBr2 := HBr.out.trans (HH.out.2.2.mono hsr)
                   have hlD : ∀ E, E ∈ Ds → E < wr.heap.size := fun E hE => hlt_of (HMk.out.1 E hE)
                   refine ⟨headE_intro n0 most xi xt w a0 c0 C A B0 W5 W (i + 1) (D :: Ds) _ (by omega) hBr2 ⟨fun E hE => ?_, List.nodup_cons.2 ⟨fun hE => ?_, HMk.out.2.1⟩, fun E hE => ?_⟩ rfl rfl rfl rfl rfl rfl rfl rfl rfl rfl (by show Value.int .i64 ((i : Int) + 1) = _; push_cast; rfl), by simp [intOf]; omega⟩
                   · rcases List.mem_cons.1 hE with rfl | hE
                     · exact HH.out.2.1
                     · exact (HH.out.2.2.block E (hlD E hE)).trans (HMk.out.1 E hE)
                   · have := hlD D hE; have := HH.out.1; omega
                   · rcases List.mem_cons.1 hE with rfl | hE
                     · have := HH.out.1; omega
                     · exact HMk.out.2.2 E hE)
            case stop =>
              rintro D c k W hD hk ⟨⟨rfl, hkM⟩, bN, hB⟩ hDW
              have hA2 := HR.out.below hB
              have cA := hA2.ba.cell
              have cN := bN.cell
              have cM := hA2.st.bm.cell
              have hwm : IntKind.i64.wrap (most : Int) = (most : Int) := by rw [IntKind.wrap_i64] <;> omega
              have HH := Lib.hid (And.intro hD (And.intro hDW hB))
              have hw2 : IntKind.i64.wrap ((i : Int) + 1) = (i : Int) + 1 := by rw [IntKind.wrap_i64] <;> omega
              have hkk : (k : Int) = (most : Int) := by omega
              have hkl : ¬ (L.length : Int) < (most : Int) := by omega
              rw [hkk] at cN
              clear bN hB hDW hD hA2 hkk
              by_cases hkN : (most : Int) = (L.length : Int)
              · have hq1 : ((most : Int) != (L.length : Int)) = false := by simp; omega
                have HQ := Lib.hid hkN
                clear hkN
                gi_wp2
                all_goals first
                  | (rename_i h1 h2; exact absurd h1 (undef_nb _))
                  | (have hBr2 := HBr.out.trans (HH.out.2.2.mono hsr)
                     have hlD : ∀ E, E ∈ Ds → E < wr.heap.size := fun E hE => hlt_of (HMk.out.1 E hE)
                     refine ⟨headE_intro n0 most xi xt w a0 c0 C A B0 W5 W (i + 1) (D :: Ds) _ (by omega) hBr2 ⟨fun E hE => ?_, List.nodup_cons.2 ⟨fun hE => ?_, HMk.out.2.1⟩, fun E hE => ?_⟩ rfl rfl rfl rfl rfl rfl rfl rfl rfl rfl (by show Value.int .i64 ((i : Int) + 1) = _; push_cast; rfl), by simp [intOf]; omega⟩
                     · rcases List.mem_cons.1 hE with rfl | hE
                       · exact HH.out.2.1
                       · exact (HH.out.2.2.block E (hlD E hE)).trans (HMk.out.1 E hE)
                     · have := hlD D hE; have := HH.out.1; omega
                     · rcases List.mem_cons.1 hE with rfl | hE
                       · have := HH.out.1; omega
                       · exact HMk.out.2.2 E hE)
              · have hq1 : ((most : Int) != (L.length : Int)) = true := by simp; omega
                clear hkN
                gi_wp2
                all_goals first
                  | (rename_i h1 h2; exact absurd h1 (undef_nb _))
                  | (have hBr2 := HBr.out.trans (HH.out.2.2.mono hsr)
                     have hlD : ∀ E, E ∈ Ds → E < wr.heap.size := fun E hE => hlt_of (HMk.out.1 E hE)
                     refine ⟨headE_intro n0 most xi xt w a0 c0 C A B0 W5 W (i + 1) (D :: Ds) _ (by omega) hBr2 ⟨fun E hE => ?_, List.nodup_cons.2 ⟨fun hE => ?_, HMk.out.2.1⟩, fun E hE => ?_⟩ rfl rfl rfl rfl rfl rfl rfl rfl rfl rfl (by show Value.int .i64 ((i : Int) + 1) = _; push_cast; rfl), by simp [intOf]; omega⟩
                     · rcases List.mem_cons.1 hE with rfl | hE
                       · exact HH.out.2.1
                       · exact (HH.out.2.2.block E (hlD E hE)).trans (HMk.out.1 E hE)
                     · have := hlD D hE; have := HH.out.1; omega
                     · rcases List.mem_cons.1 hE with rfl | hE
                       · have := HH.out.1; omega
                       · exact HMk.out.2.2 E hE)
          · obtain rfl : i = 2 := by omega
            have hltR := H5.out.st.br.lt
            have hst := HR.out.st
            have hch := hst.ch
            have cC := hst.bc.cell
            obtain ⟨x0, x1, _, _⟩ := hst.bx
            have HHM := Lib.hid HMk.out.1
            clear hst
            gi_wp2
            refine ⟨trivial, (callsIn_wide.2 (put_any _ L xi xt _ hch hxi hxt)).mono ?_⟩
            rintro y w7 ⟨s2, rfl, hch2, hb⟩
            obtain ⟨a9, n9, p9, rfl⟩ := hch2.form
            have hbn := below_one w7 (.cells #[.slice a9 n9 p9] 26)
            have HBN : Hid (Boxed (w7.alloc (.cells #[.slice a9 n9 p9] 26)) w7.heap.size 26 (.slice a9 n9 p9)) := Lib.hid (Boxed.new w7 _ _)
            have HZ0 := Lib.hid ((HR.out.below hb).below hbn)
            have HMZ0 := Lib.hid ((HHM.out.below hb).below hbn)
            have HC20 := Lib.hid (hch2.below hbn)
            have hltD : w.heap.size + 1 + 1 < w7.heap.size := Nat.lt_of_lt_of_le HR.out.st.br.lt hb.size
            clear hb hbn hch2 hch cC x0 x1
            obtain ⟨z, hz⟩ : ∃ z, putE L xi xt = z := ⟨_, rfl⟩
            rw [hz]
            by_cases h0 : z = 0
            · subst h0
              have hpl : putL L xi xt = putI xi xt L := by unfold putL; rw [if_pos hz]
              rw [hpl] at HC20
              have hGP := get_put xi xt HZ0.out.st.ch.good.rise
              have hDP := del_put xi xt HZ0.out.st.ch.good.rise
              clear hz hpl
              have HGE : Hid (Calls Try.prog 16 #[.agg #[.slice a9 n9 p9], .int .u64 xi] (w7.alloc (.cells #[.slice a9 n9 p9] 26)) fun e w' => e = .returned (.tuple #[.string xt, .bool true]) ∧ Below (w7.alloc (.cells #[.slice a9 n9 p9] 26)).heap.size (w7.alloc (.cells #[.slice a9 n9 p9] 26)) w') := by
                have h := get_any _ _ xi _ HC20.out hxi
                rw [hGP] at h
                exact Lib.hid h
              generalize hWG : w7.alloc (.cells #[.slice a9 n9 p9] 26) = WG at *
              generalize hD9 : w7.heap.size = D9 at *
              have cD := HBN.out.cell
              obtain ⟨x0, x1, _, _⟩ := HZ0.out.st.bx
              gi_wp2
              refine ⟨trivial, (callsIn_wide.2 HGE.out).mono ?_⟩
              rintro y WZ ⟨rfl, hb⟩
              have HZA := Lib.hid (HZ0.out.below hb)
              have HZ := Lib.hid (HZ0.out.below hb).st
              have HMZ := Lib.hid (HMZ0.out.below hb)
              have HBN2 := Lib.hid (boxed_later HBN.out hb)
              have HC2 := Lib.hid (HC20.out.below hb)
              have HSS : Hid (∀ X, Below WZ.heap.size WZ X → (X.cell? ⟨w.heap.size + 1, 0, none⟩ = some (.int .u64 xi) ∧ X.cell? ⟨w.heap.size + 1, 1, none⟩ = some (.string xt) ∧ X.cell? ⟨C, 0, none⟩ = some (.slice a7 n7 p7) ∧ X.cell? ⟨D9, 0, none⟩ = some (.slice a9 n9 p9) ∧ X.cell? ⟨A, 0, none⟩ = some (.slice a8 L.length c8)) ∧ Below w.heap.size w X) := Lib.hid (fun X hX => by
                have h := HZA.out.below hX
                exact ⟨⟨h.st.bx.1, h.st.bx.2.1, h.st.bc.cell, (boxed_later HBN2.out hX).cell, h.ba.cell⟩, h.st.bel⟩)
              have HSR : Hid (∀ X, Below WZ.heap.size WZ X → ((X.setCell ⟨w.heap.size + 1 + 1, 0, none⟩ (.bool true)).cell? ⟨w.heap.size + 1, 0, none⟩ = some (.int .u64 xi) ∧ (X.setCell ⟨w.heap.size + 1 + 1, 0, none⟩ (.bool true)).cell? ⟨w.heap.size + 1, 1, none⟩ = some (.string xt) ∧ (X.setCell ⟨w.heap.size + 1 + 1, 0, none⟩ (.bool true)).cell? ⟨C, 0, none⟩ = some (.slice a7 n7 p7) ∧ (X.setCell ⟨w.heap.size + 1 + 1, 0, none⟩ (.bool true)).cell? ⟨D9, 0, none⟩ = some (.slice a9 n9 p9) ∧ (X.setCell ⟨w.heap.size + 1 + 1, 0, none⟩ (.bool true)).cell? ⟨A, 0, none⟩ = some (.slice a8 L.length c8)) ∧ Below w.heap.size w (X.setCell ⟨w.heap.size + 1 + 1, 0, none⟩ (.bool true))) := Lib.hid (fun X hX => by
                have h := HSS.out X hX
                have hlc := HZ.out.lc
                have hla := HZA.out.la
                refine ⟨⟨?_, ?_, ?_, ?_, ?_⟩, h.2.setCell (p := ⟨w.heap.size + 1 + 1, 0, none⟩) (by show w.heap.size ≤ w.heap.size + 1 + 1; omega) _⟩
                · rw [World.cell?_setCell_far (h := by show w.heap.size + 1 + 1 ≠ w.heap.size + 1; omega)]; exact h.1.1
                · rw [World.cell?_setCell_far (h := by show w.heap.size + 1 + 1 ≠ w.heap.size + 1; omega)]; exact h.1.2.1
                · rw [World.cell?_setCell_far (h := by show w.heap.size + 1 + 1 ≠ C; omega)]; exact h.1.2.2.1
                · rw [World.cell?_setCell_far (h := by show w.heap.size + 1 + 1 ≠ D9; omega)]; exact h.1.2.2.2.1
                · rw [World.cell?_setCell_far (h := by show w.heap.size + 1 + 1 ≠ A; omega)]; exact h.1.2.2.2.2)
              have HD1 := Lib.hid (fun X (hX : Below WZ.heap.size WZ X) => del_any _ L xi X (HZ.out.below hX).ch hxi)
              have hd2 := fun X (hX : Below WZ.heap.size WZ X) => del_any _ _ xi X (HC2.out.below hX) hxi
              rw [hDP] at hd2
              have HD2 := Lib.hid hd2
              have HSM : Hid (∀ X a b, ChS X a (delI xi L) → ChS X b (delI xi L) → Calls Try.prog 27 #[.agg #[a], .agg #[b]] X fun e w' => e = .returned (.bool true) ∧ Below X.heap.size X w') := Lib.hid (fun X a b h1 h2 => (same_any a b _ _ X h1 h2).mono (fun e w' h => by rw [decide_eq_true rfl] at h; exact h))
              have HLN := Lib.hid (fun X (hX : Below WZ.heap.size WZ X) => len_any _ L X (HZ.out.below hX).ch)
              clear hd2 hGP hDP HGE HBN HC20 HZ0 HMZ0 cD x0 x1 hb
              gi_wp2
              refine wpIn_wide.2 (wp_mono (normOnly_region (S := fun w' => (w'.cell? ⟨w.heap.size + 1, 0, none⟩ = some (.int .u64 xi) ∧ w'.cell? ⟨w.heap.size + 1, 1, none⟩ = some (.string xt) ∧ w'.cell? ⟨C, 0, none⟩ = some (.slice a7 n7 p7) ∧ w'.cell? ⟨D9, 0, none⟩ = some (.slice a9 n9 p9) ∧ w'.cell? ⟨A, 0, none⟩ = some (.slice a8 L.length c8)) ∧ Below w.heap.size w w') (by kernel_rfl) (HSS.out _ (Below.drew (Below.refl _ _))) (fun hH0 => ?_)) normOnly_to)
              have hbz := Lib.hid (Below.drew (Below.refl WZ.heap.size WZ))
              refine takeH (i := 0) (d := 114) (v := ?_) rfl rfl (by kernel_rfl) (by kernel_rfl) (by kernel_rfl) (fun _ _ _ h => h) (Or.inl ⟨by rfl, ?y0⟩) hH0 ?_
              case y0 => intro w hSw; go_simp; try with_reducible rfl
              try simp only [Act.put, List.setIfInBounds_toArray, List.set_cons_zero, List.set_cons_succ]
              refine takeH (i := 1) (d := 115) (v := ?_) rfl rfl (by kernel_rfl) (by kernel_rfl) (by kernel_rfl) (fun _ _ _ h => h) (Or.inl ⟨by rfl, ?y1⟩) hH0 ?_
              case y1 => intro w hSw; go_simp; try with_reducible rfl
              try simp only [Act.put, List.setIfInBounds_toArray, List.set_cons_zero, List.set_cons_succ]
              refine takeH (i := 2) (d := 116) (v := ?_) rfl rfl (by kernel_rfl) (by kernel_rfl) (by kernel_rfl) (fun _ _ _ h => h) (Or.inl ⟨by rfl, ?y2⟩) hH0 ?_
              case y2 => intro w hSw; go_simp; try with_reducible rfl
              try simp only [Act.put, List.setIfInBounds_toArray, List.set_cons_zero, List.set_cons_succ]
              refine takeH (i := 3) (d := 117) (v := ?_) rfl rfl (by kernel_rfl) (by kernel_rfl) (by kernel_rfl) (fun _ _ _ h => h) (Or.inl ⟨by rfl, ?y3⟩) hH0 ?_
              case y3 => intro w hSw; go_simp; try with_reducible rfl
              try simp only [Act.put, List.setIfInBounds_toArray, List.set_cons_zero, List.set_cons_succ]
              refine takeH (i := 4) (d := 118) (v := ?_) rfl rfl (by kernel_rfl) (by kernel_rfl) (by kernel_rfl) (fun _ _ _ h => h) (Or.inl ⟨by rfl, ?y4⟩) hH0 ?_
              case y4 => intro w hSw; go_simp; try with_reducible rfl
              try simp only [Act.put, List.setIfInBounds_toArray, List.set_cons_zero, List.set_cons_succ]
              refine takeH (i := 5) (d := 119) (v := ?_) rfl rfl (by kernel_rfl) (by kernel_rfl) (by kernel_rfl) (fun _ _ _ h => h) (Or.inl ⟨by rfl, ?y5⟩) hH0 ?_
              case y5 => intro w hSw; go_simp; try with_reducible rfl
              try simp only [Act.put, List.setIfInBounds_toArray, List.set_cons_zero, List.set_cons_succ]
              refine takeH (i := 6) (d := 120) (v := ?_) rfl rfl (by kernel_rfl) (by kernel_rfl) (by kernel_rfl) (fun _ _ _ h => h) (Or.inl ⟨by rfl, ?y6⟩) hH0 ?_
              case y6 => intro w hSw; go_simp; try with_reducible rfl
              try simp only [Act.put, List.setIfInBounds_toArray, List.set_cons_zero, List.set_cons_succ]
              refine takeH (i := 7) (d := 121) (v := ?_) rfl rfl (by kernel_rfl) (by kernel_rfl) (by kernel_rfl) (fun _ _ _ h => h) (Or.inl ⟨by rfl, ?y7⟩) hH0 ?_
              case y7 => intro w hSw; go_simp; try with_reducible rfl
              try simp only [Act.put, List.setIfInBounds_toArray, List.set_cons_zero, List.set_cons_succ]
              refine takeH (i := 8) (d := 122) (v := ?_) rfl rfl (by kernel_rfl) (by kernel_rfl) (by kernel_rfl) (fun _ _ _ h => h) (Or.inl ⟨by rfl, ?y8⟩) hH0 ?_
              case y8 => intro w hSw; go_simp; try with_reducible rfl
              try simp only [Act.put, List.setIfInBounds_toArray, List.set_cons_zero, List.set_cons_succ]
              refine takeH (i := 9) (d := 123) (v := ?_) rfl rfl (by kernel_rfl) (by kernel_rfl) (by kernel_rfl) (fun _ _ _ h => h) (Or.inl ⟨by rfl, ?y9⟩) hH0 ?_
              case y9 => intro w hSw; go_simp; try with_reducible rfl
              try simp only [Act.put, List.setIfInBounds_toArray, List.set_cons_zero, List.set_cons_succ]
              refine takeH (i := 10) (d := 124) (v := ?_) rfl rfl (by kernel_rfl) (by kernel_rfl) (by kernel_rfl) (fun _ _ _ h => h) (Or.inl ⟨by rfl, ?y10⟩) hH0 ?_
              case y10 => intro w hSw; go_simp; try with_reducible rfl
              try simp only [Act.put, List.setIfInBounds_toArray, List.set_cons_zero, List.set_cons_succ]
              refine takeH (i := 12) (d := 126) (v := ?_) rfl rfl (by kernel_rfl) (by kernel_rfl) (by kernel_rfl) (fun _ _ _ h => h) (Or.inl ⟨by rfl, ?y12⟩) hH0 ?_
              case y12 => intro w hSw; go_simp; try with_reducible rfl
              try simp only [Act.put, List.setIfInBounds_toArray, List.set_cons_zero, List.set_cons_succ]
              refine takeH (i := 13) (d := 127) (v := ?_) rfl rfl (by kernel_rfl) (by kernel_rfl) (by kernel_rfl) (fun _ _ _ h => h) (Or.inl ⟨by rfl, ?y13⟩) hH0 ?_
              case y13 => intro w hSw; go_simp; try with_reducible rfl
              try simp only [Act.put, List.setIfInBounds_toArray, List.set_cons_zero, List.set_cons_succ]
              refine takeH (i := 14) (d := 128) (v := ?_) rfl rfl (by kernel_rfl) (by kernel_rfl) (by kernel_rfl) (fun _ _ _ h => h) (Or.inl ⟨by rfl, ?y14⟩) hH0 ?_
              case y14 => intro w hSw; go_simp; try with_reducible rfl
              try simp only [Act.put, List.setIfInBounds_toArray, List.set_cons_zero, List.set_cons_succ]
              refine wpAnyH_ready (rs := [11]) (by kernel_rfl) (by simp) ?_
              refine AllReadyH.cons rfl (fun K hK => ?_) AllReadyH.nil
              go_simp
              refine (HD1.out _ hbz.out).mono ?_
              rintro e w' ⟨sd1, rfl, hc1, hb⟩
              obtain ⟨a11, n11, p11, rfl⟩ := hc1.form
              have hbz' := Lib.hid (hbz.out.trans (hb.mono hbz.out.size))
              go_wp2_with fail
              refine hK.out _ _ (HSS.out _ hbz'.out) (fun hH1 => ?_)
              clear hK K hb hH0 hbz
              have hbz := hbz'
              clear hbz'
              skip
              try simp only [Act.put, List.setIfInBounds_toArray, List.set_cons_zero, List.set_cons_succ]
              refine wpAnyH_ready (rs := [15]) (by kernel_rfl) (by simp) ?_
              refine AllReadyH.cons rfl (fun K hK => ?_) AllReadyH.nil
              go_simp
              refine (HD2.out _ hbz.out).mono ?_
              rintro e w' ⟨sd2, rfl, hc2, hb⟩
              obtain ⟨a12, n12, p12, rfl⟩ := hc2.form
              have hc1 := hc1.below hb
              have hbz' := Lib.hid (hbz.out.trans (hb.mono hbz.out.size))
              go_wp2_with fail
              refine hK.out _ _ (HSS.out _ hbz'.out) (fun hH2 => ?_)
              clear hK K hb hH1 hbz
              have hbz := hbz'
              clear hbz'
              skip
              try simp only [Act.put, List.setIfInBounds_toArray, List.set_cons_zero, List.set_cons_succ]
              refine wpAnyH_ready (rs := [16]) (by kernel_rfl) (by simp) ?_
              refine AllReadyH.cons rfl (fun K hK => ?_) AllReadyH.nil
              go_simp
              refine (HSM.out _ _ _ hc1 hc2).mono ?_
              rintro e w' ⟨rfl, hb⟩
              clear hc1 hc2
              have hbz' := Lib.hid (hbz.out.trans (hb.mono hbz.out.size))
              go_wp2_with fail
              refine hK.out _ _ (HSS.out _ hbz'.out) (fun hH3 => ?_)
              clear hK K hb hH2 hbz
              have hbz := hbz'
              clear hbz'
              skip
              try simp only [Act.put, List.setIfInBounds_toArray, List.set_cons_zero, List.set_cons_succ]
              refine takeH (i := 17) (d := 131) (v := ?_) rfl rfl (by kernel_rfl) (by kernel_rfl) (by kernel_rfl) (fun _ _ _ h => h) (Or.inl ⟨by rfl, ?y17⟩) hH3 ?_
              case y17 => intro w hSw; go_simp; try with_reducible rfl
              try simp only [Act.put, List.setIfInBounds_toArray, List.set_cons_zero, List.set_cons_succ]
              refine takeH (i := 18) (d := 132) (v := ?_) rfl rfl (by kernel_rfl) (by kernel_rfl) (by kernel_rfl) (fun _ _ _ h => h) (Or.inl ⟨by rfl, ?y18⟩) hH3 ?_
              case y18 => intro w hSw; go_simp; try with_reducible rfl
              try simp only [Act.put, List.setIfInBounds_toArray, List.set_cons_zero, List.set_cons_succ]
              refine takeH (i := 19) (d := 133) (v := ?_) rfl rfl (by kernel_rfl) (by kernel_rfl) (by kernel_rfl) (fun _ _ _ h => h) (Or.inl ⟨by rfl, ?y19⟩) hH3 ?_
              case y19 => intro w hSw; go_simp; try with_reducible rfl
              try simp only [Act.put, List.setIfInBounds_toArray, List.set_cons_zero, List.set_cons_succ]
              refine takeH (i := 21) (d := 135) (v := ?_) rfl rfl (by kernel_rfl) (by kernel_rfl) (by kernel_rfl) (fun _ _ _ h => h) (Or.inl ⟨by rfl, ?y21⟩) hH3 ?_
              case y21 => intro w hSw; go_simp; try with_reducible rfl
              try simp only [Act.put, List.setIfInBounds_toArray, List.set_cons_zero, List.set_cons_succ]
              refine takeH (i := 22) (d := 136) (v := ?_) rfl rfl (by kernel_rfl) (by kernel_rfl) (by kernel_rfl) (fun _ _ _ h => h) (Or.inl ⟨by rfl, ?y22⟩) hH3 ?_
              case y22 => intro w hSw; go_simp; try with_reducible rfl
              try simp only [Act.put, List.setIfInBounds_toArray, List.set_cons_zero, List.set_cons_succ]
              refine wpAnyH_ready (rs := [20]) (by kernel_rfl) (by simp) ?_
              refine AllReadyH.cons rfl (fun K hK => ?_) AllReadyH.nil
              go_simp
              refine (HLN.out _ hbz.out).mono ?_
              rintro e w' ⟨rfl, hb⟩
              have hbz' := Lib.hid (hbz.out.trans (hb.mono hbz.out.size))
              go_wp2_with fail
              refine hK.out _ _ (HSS.out _ hbz'.out) (fun hH4 => ?_)
              clear hK K hb hH3 hbz
              have hbz := hbz'
              clear hbz'
              skip
              try simp only [Act.put, List.setIfInBounds_toArray, List.set_cons_zero, List.set_cons_succ]
              refine takeH (i := 23) (d := 137) (v := ?_) rfl rfl (by kernel_rfl) (by kernel_rfl) (by kernel_rfl) (fun _ _ _ h => h) (Or.inl ⟨by rfl, ?y23⟩) hH4 ?_
              case y23 => intro w hSw; go_simp; try with_reducible rfl
              try simp only [Act.put, List.setIfInBounds_toArray, List.set_cons_zero, List.set_cons_succ]
              refine takeH (i := 24) (d := 138) (v := ?_) rfl rfl (by kernel_rfl) (by kernel_rfl) (by kernel_rfl) (fun _ _ _ h => h) (Or.inl ⟨by rfl, ?y24⟩) hH4 ?_
              case y24 => intro w hSw; go_simp; try with_reducible rfl
              try simp only [Act.put, List.setIfInBounds_toArray, List.set_cons_zero, List.set_cons_succ]
              refine takeH (i := 25) (d := 139) (v := ?_) rfl rfl (by kernel_rfl) (by kernel_rfl) (by kernel_rfl) (fun _ _ _ h => h) (Or.inl ⟨by rfl, ?y25⟩) hH4 ?_
              case y25 => intro w hSw; go_simp; try with_reducible rfl
              try simp only [Act.put, List.setIfInBounds_toArray, List.set_cons_zero, List.set_cons_succ]
              refine wpAnyH_ready (rs := [26]) (by kernel_rfl) (by simp) ?_
              refine AllReadyH.cons rfl (fun K hK => ?_) AllReadyH.nil
              go_simp
              refine (HA.out _).mono ?_
              rintro e w' ⟨rfl, hb⟩
              have hbz' := Lib.hid (hbz.out.trans (hb.mono hbz.out.size))
              go_wp2_with fail
              refine hK.out _ _ (HSS.out _ hbz'.out) (fun hH5 => ?_)
              clear hK K hb hH4 hbz
              have hbz := hbz'
              clear hbz'
              skip
              try simp only [Act.put, List.setIfInBounds_toArray, List.set_cons_zero, List.set_cons_succ]
              refine takeH (i := 27) (d := 141) (v := ?_) rfl rfl (by kernel_rfl) (by kernel_rfl) (by kernel_rfl) (fun _ _ _ h => h) (Or.inl ⟨by rfl, ?y27⟩) hH5 ?_
              case y27 => intro w hSw; go_simp; try with_reducible rfl
              try simp only [Act.put, List.setIfInBounds_toArray, List.set_cons_zero, List.set_cons_succ]
              refine wpAnyH_ready (rs := [28]) (by kernel_rfl) (by simp) ?_
              refine AllReadyH.cons rfl (fun K hK => ?_) AllReadyH.nil
              have bR := boxed_later HZ.out.br hbz.out
              have z0 := bR.cell
              have z1 := bR.frozen
              have HBR9 := Lib.hid bR
              clear bR
              go_simp
              refine hK.out _ _ (HSR.out _ hbz.out) (fun hH6 => ?_)
              clear hK K
              try simp only [Act.put, List.setIfInBounds_toArray, List.set_cons_zero, List.set_cons_succ]
              refine wpAnyH_done (by kernel_rfl) ?_ _
              dsimp only [normOnly]
              gi_wp2
              exact each_leaves HBR9.out hltR (HZ.out.bel.trans (hbz.out.mono HZ.out.bel.size)) (HMZ.out.below hbz.out) HMk.out.2.1 HMk.out.2.2 rfl
            · have hbe : (((z : Nat) : Int) != 0) = true := by simpa using h0
              have hpl : putL L xi xt = L := by unfold putL; rw [if_neg (by rw [hz]; exact h0)]
              rw [hpl] at HC20
              clear hz hpl
              generalize hWZ : w7.alloc (.cells #[.slice a9 n9 p9] 26) = WZ at *
              generalize hD9 : w7.heap.size = D9 at *
              have cD := HBN.out.cell
              have cC := HZ0.out.st.bc.cell
              have HSM := Lib.hid ((same_any _ _ L L WZ HZ0.out.st.ch HC20.out).mono (fun e w' h => (by rw [decide_eq_true rfl] at h; exact h : e = .returned (.bool true) ∧ Below WZ.heap.size WZ w')))
              gi_wp2
              refine ⟨trivial, (callsIn_wide.2 HSM.out).mono ?_⟩
              rintro y w8 ⟨rfl, hb8⟩
              gi_wp2
              refine ⟨trivial, (callsIn_wide.2 (HA.out _)).mono ?_⟩
              rintro y w9 ⟨rfl, hb9⟩
              have hbz := hb8.trans (hb9.mono hb8.size)
              have bR := boxed_later HZ0.out.st.br hbz
              have z0 := bR.cell
              have z1 := bR.frozen
              have HE9 := Lib.hid (And.intro bR (And.intro (HZ0.out.st.bel.trans (hbz.mono HZ0.out.st.bel.size)) (HMZ0.out.below hbz)))
              clear hb8 hb9 hbz bR
              gi_wp2
              exact each_leaves HE9.out.1 hltR HE9.out.2.1 HE9.out.2.2 HMk.out.2.1 HMk.out.2.2 rfl
end Go.Proofs.Ytmmjdlpoiibhaaa
