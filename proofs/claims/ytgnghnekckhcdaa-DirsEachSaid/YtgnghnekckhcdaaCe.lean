/- The program's numbers of a row: what they hand on. -/
import Derived.Test.YtgnghnekckhcdaaCd
namespace Go.Proofs.Ytgnghnekckhcdaa
open Go.RowKit Go.Shelf
set_option linter.unusedVariables false
set_option linter.unusedSimpArgs false
attribute [local go_sem] Oper.semAt_some
/-- The k-th number of a directory. -/
def numD (l : List En) (k : Nat) : Int := if k = 0 then l.length else colN l ((k - 1) / l.length) ((k - 1) % l.length)
theorem numD_zero (l : List En) : numD l 0 = l.length := if_pos rfl
theorem numD_col (l : List En) (c j : Nat) (hj : j < l.length) : numD l (1 + c * l.length + j) = colN l c j := by
  unfold numD
  rw [if_neg (by omega), show 1 + c * l.length + j - 1 = j + l.length * c from by rw [Nat.mul_comm]; omega, Nat.add_mul_div_left _ _ (by omega), Nat.add_mul_mod_self_left, Nat.div_eq_of_lt hj, Nat.mod_eq_of_lt hj, Nat.zero_add]
theorem pnum_any (al : Option Addr) (m cap : Nat) (w : World) : Calls Try.prog 24 #[.slice al m cap] w fun x w' => x = .returned (.func (.func 49) #[] #[.pointer (some ⟨w.heap.size, 0, none⟩)]) ∧ w' = w.alloc (.cells #[.slice al m cap] 67) := by
  go_enter Try.func24, Try.ntmps24
  go_wp2_with fail
  go_ret
  exact ⟨rfl, rfl⟩
theorem room_wide' (k : Nat) : Fence.wide.room k := fun d h => by cases h
theorem YieldAt.any {m : Nat} (m' : Nat) {P : Program} {l : Nat} {args : Array Value} {W : World} {R : Ending → World → Prop} (h : YieldAt Fence.wide m P l args W R) : YieldAt Fence.wide m' P l args W R := by
  obtain ⟨fn, tmps, assign, body, hy, hR⟩ := h
  exact ⟨fn, tmps, assign, body, hy, hR.1, fun c cs _ => hR.2 c cs (room_wide' _)⟩
def VN (l : List En) (v : Value) (B0 : Nat) (b : Nat) : Prop := b = B0 ∨ l ≠ [] ∧ ∃ a n c, v = .slice (some a) n c ∧ b = a.block
theorem off_vn {S : Nat → Prop} {l : List En} {v : Value} {B0 : Nat} (h : ∀ b, S b → ¬ VN l v B0 b) : Off S l v := fun hl a n c hv hs => h _ hs (.inr ⟨hl, a, n, c, hv, rfl⟩)
/-- The marks that ranges have left. -/
def mksD (Ds : List Nat) : List Deferred := Ds.map fun D => { target := .collected D, args := #[] }
/-- They lie as they were laid. -/
def MkAt (Ds : List Nat) (W : World) : Prop := ∀ D, D ∈ Ds → W.heap[D]? = some (.deferred (some []))
theorem leaves_marks {n : Nat} {P : Program} {fn : Func} {tmps : Array Value} {R : Ending → World → Prop} (p : World → Prop) : ∀ (Ds : List Nat) (W : World), MkAt Ds W → Ds.Nodup → p W →
    (∀ X D, D ∈ Ds → X.heap[D]? = some (.deferred (some [])) → p X → p (X.putObj D (.deferred none))) → (∀ W', p W' → LeavesInM Fence.wide n P fn tmps R [] .returning W') → LeavesInM Fence.wide n P fn tmps R (mksD Ds) .returning W
  | [], W, _, _, hp, _, h => h W hp
  | D :: Ds, W, hm, hn, hp, hs, h => by
    have hD := hm D (List.mem_cons_self ..)
    refine ⟨by simp, .inl ⟨D, _, rfl, run_takeDeferred hD, ?_⟩⟩
    refine leaves_marks p Ds _ (fun D' h' => ?_) (List.nodup_cons.1 hn).2 (hs W D (List.mem_cons_self ..) hD hp) (fun X E hE => hs X E (List.mem_cons_of_mem _ hE)) h
    have hne : D' ≠ D := fun e => (List.nodup_cons.1 hn).1 (e ▸ h')
    exact (World.putObj_heap_other hne).trans (hm D' (List.mem_cons_of_mem _ h'))
/-- What holds where a new column begins. -/
def HeadD (J : Nat → (Nat → Prop) → World → Prop) (n lp B0 BY BF : Nat) (S1 : Nat → Prop) (X1 : World) (a : Act) (wr : World) : Prop :=
  ∃ (c : Nat) (S : Nat → Prop) (Ds : List Nat) (ci : Value), c ≤ 4 ∧ ci = .int .i64 (c : Int) ∧ Hid (J (1 + c * n) S wr) ∧ Hid (KeepsS S1 S X1 wr) ∧ Hid (MkAt Ds wr ∧ Ds.Nodup ∧ ∀ D, D ∈ Ds → X1.heap.size ≤ D ∧ ¬ S D) ∧ ∃ u3 u4 u5 u6 u7 u8 u9 u10 u11 u12 u13 u14 u15 u16 u17 u18 u19 u23 u24 u25 u26 u27 u28 u29 u30 u31 u32 u33 u34 : Value, a = { tmps := #[.func (.yield lp) #[] #[], .pointer (some ⟨B0, 0, none⟩), .pointer (some ⟨BY, 0, none⟩), u3, u4, u5, u6, u7, u8, u9, u10, u11, u12, u13, u14, u15, u16, u17, u18, u19, .slice (some ⟨BF, 0, none⟩) 4 4, .int .i64 4, ci, u23, u24, u25, u26, u27, u28, u29, u30, u31, u32, u33, u34], defers := mksD Ds }
set_option maxRecDepth 100000 in
set_option maxHeartbeats 4000000 in
theorem pnum1_seq (v : Value) (l : List En) (B0 : Nat) (w : World) (hm : MaysN l) (hv : EnsAt w v l) (h1 : w.cell? ⟨B0, 0, none⟩ = some v) :
    SeqD Try.prog 49 #[.pointer (some ⟨B0, 0, none⟩)] (fun k => #[.int .u64 (numD l k)]) (1 + 4 * l.length) (fun _ => False) (VN l v B0) (fun _ _ => True) (fun _ => True) w := by
  intro n lp J Jx S0 W hW hJ hJx hG hS0 hY h0
  have hoff : Off S0 l v := off_vn (fun b hb => (hS0 b hb).2)
  have hvW := hv.below hW
  have hn1 : ¬ S0 B0 := fun h => (hS0 _ h).2 (.inl rfl)
  have g1 := ecell_later hW h1
  have hlt0 : B0 < W.heap.size := ecell_lt g1
  obtain ⟨al, cap, rfl, hcap, hmx, _⟩ := hv
  have hml : l.length ≤ 9223372036854775807 := by unfold maxLen at hmx; omega
  have HM := Lib.hid hm
  have HJ := Lib.hid hJ
  have HJx := Lib.hid hJx
  have HG := Lib.hid hG
  have HY := Lib.hid hY
  have HVW := Lib.hid hvW
  have HOF := Lib.hid hoff
  have hby : W.heap.size < (W.alloc (.cells #[.func (.yield lp) #[] #[]] 101)).heap.size := by simp
  have g1' : (W.alloc (.cells #[.func (.yield lp) #[] #[]] 101)).cell? ⟨B0, 0, none⟩ = some (.slice al l.length cap) := ecell_later ((Below.refl _ W).alloc (Nat.le_refl _) _) g1
  have gy : (W.alloc (.cells #[.func (.yield lp) #[] #[]] 101)).cell? ⟨W.heap.size, 0, none⟩ = some (.func (.yield lp) #[] #[]) := by rw [World.cell?_alloc_mark]; rfl
  obtain ⟨fn, tmps, assign, body, hy, hR⟩ := hY 0 S0 (W.alloc (.cells #[.func (.yield lp) #[] #[]] 101)) (hJ.alloc (s := (0, S0)) h0 _) (by omega)
  dsimp only at hy
  rw [numD_zero] at hy
  have hwl : IntKind.u64.wrap (l.length : Int) = (l.length : Int) := by rw [wrapU]; omega
  have HR := Lib.hid hR
  have HS := Lib.hid (And.intro hS0 hn1)
  clear hJ hY hJx hG hoff hvW hR hS0 hn1 h1 hcap hmx hm
  refine callsIn_of_wp_marks Try.func49 rfl trivial ?_ rfl
  simp only [Try.ntmps49, List.size_toArray, List.length_cons, List.length_nil, Nat.reduceAdd, Nat.reduceSub, Array.replicate_succ, Array.replicate_zero, List.push_toArray, List.append_toArray, List.nil_append, List.cons_append]
  gi_wp2
  refine ⟨noDepth, HR.out.mono ?_⟩
  rintro x W3 (⟨rfl, S1, hJ3, hk3⟩ | ⟨rfl, hJx3, _⟩)
  · have hb0 := hk3.cell (p := ⟨B0, 0, none⟩) HS.out.2 g1'
    have hnby : ¬ S0 W.heap.size := fun h => by have := (HS.out.1 _ h).1; omega
    have hby3 := hk3.cell (p := ⟨W.heap.size, 0, none⟩) hnby gy
    have hs1 := (HG.out _ _ _ hJ3).2
    have hoff1 : Off S1 l (.slice al l.length cap) := fun hl a n c hv hs => by
      have := ens_lt HVW.out hl hv
      rcases hk3.own _ hs with h | h
      · exact HOF.out hl a n c hv h
      · omega
    have hn0 : ¬ S1 B0 := fun h => by
      rcases hk3.own _ h with h | h
      · exact HS.out.2 h
      · omega
    have hn1 : ¬ S1 W.heap.size := fun h => by
      rcases hk3.own _ h with h | h
      · exact hnby h
      · omega
    have hv3 : EnsAt W3 (.slice al l.length cap) l := hk3.ens HOF.out (HVW.out.below ((Below.refl _ W).alloc (Nat.le_refl _) _))
    have HJ3 := Lib.hid hJ3
    have HK3 := Lib.hid hk3
    have HX1 := Lib.hid (And.intro hn0 (And.intro hn1 (And.intro hs1 (And.intro hoff1 hv3))))
    clear hJ3 hk3 hn0 hn1 hs1 hoff1 hv3 HR hnby
    gi_wp2
    have hX1 : ∃ X1, W3.alloc (.cells #[fvN 0 (.slice al l.length cap), fvN 1 (.slice al l.length cap), fvN 2 (.slice al l.length cap), fvN 3 (.slice al l.length cap)] 102) = X1 := ⟨_, rfl⟩
    obtain ⟨X1, hX1⟩ := hX1
    have hXb : Below W3.heap.size W3 X1 := by rw [← hX1]; exact (Below.refl _ _).alloc (Nat.le_refl _) _
    have hXs : W3.heap.size < X1.heap.size := by rw [← hX1]; simp
    have hXc : ∀ c : Nat, c < 4 → X1.cell? ⟨W3.heap.size, c, none⟩ = some (.func (.func (fcN c)) #[.slice al l.length cap] #[]) := by
      intro c hc
      rw [← hX1]
      rcases (by omega : c = 0 ∨ c = 1 ∨ c = 2 ∨ c = 3) with rfl | rfl | rfl | rfl <;> (rw [World.cell?_alloc_mark]; rfl)
    have hX1' : W3.alloc (.cells #[.func (.func 50) #[.slice al l.length cap] #[], .func (.func 51) #[.slice al l.length cap] #[], .func (.func 52) #[.slice al l.length cap] #[], .func (.func 53) #[.slice al l.length cap] #[]] 102) = X1 := hX1
    have HJX := Lib.hid (HJ.out.grow (s := (1, S1)) HJ3.out hXb)
    have hb0 := ecell_later hXb hb0
    have hby3 := ecell_later hXb hby3
    have hvX : EnsAt X1 (.slice al l.length cap) l := HX1.out.2.2.2.2.below hXb
    obtain ⟨hn0, hn1, hs1, hoff1, _⟩ := HX1.out
    have hnf : ¬ S1 W3.heap.size := fun h => by have := hs1 _ h; omega
    have HN := Lib.hid (And.intro hn0 (And.intro hn1 (And.intro hnf (And.intro hs1 (And.intro hoff1 hvX)))))
    have hBY : W.heap.size < X1.heap.size := by have := HK3.out.size; simp at this; omega
    have HB := Lib.hid (And.intro hBY (And.intro hXs hXc))
    rw [hX1']
    clear hX1 hX1' hXb hXs HX1 HJ3 hn0 hn1 hs1 hoff1 hvX hnf hXc HK3 hBY
    generalize W3.heap.size = BF at *
    refine wpIn_loop (HeadD J l.length lp B0 W.heap.size BF S1 X1) (fun a _ => 4 - (intOf (a.tmps.getD 22 undef)).toNat) ?h0 ?round
    case h0 => exact ⟨0, S1, [], _, Nat.zero_le _, rfl, by rw [Nat.zero_mul]; exact HJX, Lib.hid ⟨Nat.le_refl _, fun _ _ _ h => h, fun _ h => .inl h⟩, Lib.hid (show MkAt [] X1 ∧ List.Nodup [] ∧ ∀ D, D ∈ [] → X1.heap.size ≤ D ∧ ¬ S1 D from ⟨fun D h => by simp at h, List.nodup_nil, fun D h => by simp at h⟩), _, _, _, _, _, _, _, _, _, _, _, _, _, _, _, _, _, _, _, _, _, _, _, _, _, _, _, _, _, rfl⟩
    case round =>
      rintro a wr ⟨c, S, Ds, ci, hc, rfl, HJs, HK, HMk, u3, u4, u5, u6, u7, u8, u9, u10, u11, u12, u13, u14, u15, u16, u17, u18, u19, u23, u24, u25, u26, u27, u28, u29, u30, u31, u32, u33, u34, rfl⟩
      by_cases hc4 : c < 4
      · have k0 := HK.out.cell (p := ⟨B0, 0, none⟩) HN.out.1 hb0
        have kY := HK.out.cell (p := ⟨W.heap.size, 0, none⟩) HN.out.2.1 hby3
        have kF := HK.out.cell (p := ⟨BF, c, none⟩) HN.out.2.2.1 (HB.out.2.2 c hc4)
        have hci : (c : Int) < 4 := by omega
        have HV := Lib.hid (HK.out.ens HN.out.2.2.2.2.1 HN.out.2.2.2.2.2)
        clear hb0 hby3 g1 g1' gy
        gi_wp2
        refine ⟨trivial, noDepth, (callsIn_wide.2 (pcol_any al l.length cap (fcN c) #[.slice al l.length cap] _)).mono ?_⟩
        rintro x w2 ⟨rfl, hw2⟩
        gi_wp2
        have hjN : ∀ j, j < l.length → 1 + c * l.length + j < 1 + 4 * l.length := fun j hj => by
          have : c * l.length + l.length ≤ 4 * l.length := by rw [← Nat.succ_mul]; exact Nat.mul_le_mul_right _ (by omega)
          omega
        rw [← hw2]
        have hb2 : Below wr.heap.size wr w2 := by rw [hw2]; exact ((Below.refl _ _).alloc (Nat.le_refl _) _).alloc (by simp) _
        have hz2 : w2.heap.size = wr.heap.size + 2 := by rw [hw2]; simp
        have q2 : w2.cell? ⟨wr.heap.size + 1, 0, none⟩ = some (.func (.func (fcN c)) #[.slice al l.length cap] #[]) := by
          rw [hw2]
          simp
        have q1 : w2.cell? ⟨wr.heap.size, 0, none⟩ = some (.slice al l.length cap) := by
          rw [hw2]
          simp
        have HV2 := Lib.hid (HV.out.below hb2)
        have HB2 := Lib.hid hb2
        have hs := (HG.out _ _ _ HJs.out).2
        have HSL := Lib.hid hs
        have kY2 := ecell_later hb2 kY
        have hoff2 : Off S l (.slice al l.length cap) := fun hl a n c hv hss => by
          have h1 := ens_lt HN.out.2.2.2.2.2 hl hv
          rcases HK.out.own _ hss with h | h
          · exact HN.out.2.2.2.2.1 hl a n c hv h
          · omega
        have hny : ¬ S W.heap.size := fun h => by
          have := ecell_lt (a := ⟨W.heap.size, 0, none⟩) kY
          have := HB.out.1
          rcases HK.out.own _ h with h | h
          · exact HN.out.2.1 h
          · omega
        have hlY := ecell_lt (a := ⟨W.heap.size, 0, none⟩) kY
        dsimp only at hlY
        refine range_d1 (n := n) (val := fun j => .int .u64 (colN l c j)) (p := 29) (r := 5) rfl (enters_of Try.func73 (by kernel_rfl) rfl) (pcol1_seq (fcN c) c _ l wr.heap.size (wr.heap.size + 1) w2 (fcN_enters c) (fun W i hv hi => fcN_any c hc4 _ l HM.out W i hv hi) HV2.out q1 q2) (Below.refl _ _) (fun _ h => h.elim) ?hV
          (fun j S' W' => J (1 + c * l.length + j) S' W' ∧ KeepsS S S' w2 W') (fun cd j W' => cd = .ret ∧ (∃ k, k ≤ 1 + 4 * l.length ∧ Jx k W') ∧ MkAt Ds W') ?hI ?hIx ?hG S ?hS0 ?h0 (fun _ _ _ _ _ _ _ _ => trivial) ?assign ?body ?done ?stop
        case hV =>
          rintro r (rfl | rfl | ⟨hl, a, n, c, hv, rfl⟩)
          · omega
          · omega
          · exact ens_lt HV2.out hl hv
        case hI => exact fun s X Y row hs hg hr => ⟨HJ.out.mono (B' := w2.heap.size) (by omega) (1 + c * l.length + s.1, s.2) X Y row hs.1 hg hr, bears_keeps (Nat.le_refl _) (fun _ h => h.elim) s X Y row hs.2 hg hr⟩
        case hIx =>
          intro cd s X Y row hs hg hr
          obtain ⟨h1, ⟨k, hk, hx⟩, h3⟩ := hs
          refine ⟨h1, ⟨k, hk, HJx.out.mono (B' := w2.heap.size) (by omega) k X Y row hx hg hr⟩, fun D hD => ?_⟩
          refine (hg.block D (hlt_of (h3 D hD)) (fun e => ?_)).trans (h3 D hD)
          have h4 := hlt_of (HMk.out.1 D hD)
          rcases hr D e.symm with h | h
          · exact h
          · omega
        case hG => exact fun j S' W' h => ⟨trivial, (HG.out _ _ _ h.1).2⟩
        case hS0 =>
          intro b hbs
          have := hs b hbs
          refine ⟨by omega, ?_⟩
          rintro (rfl | rfl | ⟨hl, a, n, c, hv, rfl⟩)
          · omega
          · omega
          · exact hoff2 hl a n c hv hbs
        case h0 => exact ⟨HJ.out.grow (s := (1 + c * l.length, S)) HJs.out hb2, ⟨Nat.le_refl _, fun _ _ _ h => h, fun _ h => .inl h⟩⟩
        case assign =>
          intro lq k W' K hK
          simp only [List.setIfInBounds_toArray, List.set_cons_zero, List.set_cons_succ] at hK ⊢
          gi_wp2
          exact hK
        case body =>
          rintro lq j S' W' hlq ⟨hJ', hK'⟩ hj
          have kY3 := hK'.cell (p := ⟨W.heap.size, 0, none⟩) hny kY2
          obtain ⟨fn', tmps', assign', body', hy', hR'⟩ := YieldAt.any (n - 1 - 1 - 1) (HY.out _ S' W' hJ' (hjN j hj))
          try dsimp only at hy'
          rw [numD_col l c j hj] at hy'
          have HR' := Lib.hid hR'
          have HK' := Lib.hid hK'
          clear hR' hK' hJ' kY2 kY k0 kF q1 q2
          simp only [List.setIfInBounds_toArray, List.set_cons_zero, List.set_cons_succ]
          gi_wp2
          refine ⟨noDepth, RoundIn.mono (F := Fence.wide.inRound lq) HR'.out ?_⟩
          rintro x W5 (⟨rfl, S5, hJ5, hk5⟩ | ⟨rfl, hJ5, S5, hk5⟩)
          · have H5 := Lib.hid (And.intro hJ5 hk5)
            clear hJ5 hk5
            gi_wp2
            exact ⟨S5, ⟨H5.out.1, HK'.out.trans H5.out.2⟩, H5.out.2⟩
          · have H5 := Lib.hid (And.intro hJ5 hk5)
            clear hJ5 hk5
            gi_wp2
            refine ⟨⟨rfl, ⟨1 + c * l.length + j + 1, by have := hjN j hj; omega, H5.out.1⟩, fun D hD => ?_⟩, S5, H5.out.2⟩
            exact (((KeepsS.below S HB2.out).trans HK'.out).trans H5.out.2).same D _ (HMk.out.2.2 D hD).2 (HMk.out.1 D hD)
        case done =>
          rintro D S' W' hD hSD ⟨hJ', hK'⟩ _ hDW
          have H5 := Lib.hid (And.intro hJ' (And.intro hK' (And.intro hD (And.intro hSD hDW))))
          clear hJ' hK' hD hSD hDW
          gi_wp2
          obtain ⟨h1, h2, h3, h4, h5⟩ := H5.out
          have hXr := HK.out.size
          refine ⟨⟨c + 1, S', D :: Ds, _, by omega, by go_num, ?_, ?_, ?_, _, _, _, _, _, _, _, _, _, _, _, _, _, _, _, _, _, _, _, _, _, _, _, _, _, _, _, _, _, rfl⟩, by simp [intOf]; omega⟩
          · have e : 1 + (c + 1) * l.length = 1 + c * l.length + l.length := by rw [Nat.succ_mul]; omega
            rw [e]
            exact Lib.hid h1
          · exact Lib.hid ((HK.out.trans (KeepsS.below S HB2.out)).trans h2)
          · have hlD : ∀ E, E ∈ Ds → E < wr.heap.size := fun E hE => hlt_of (HMk.out.1 E hE)
            refine Lib.hid (show MkAt (D :: Ds) W' ∧ (D :: Ds).Nodup ∧ ∀ E, E ∈ D :: Ds → X1.heap.size ≤ E ∧ ¬ S' E from ⟨fun E hE => ?_, List.nodup_cons.2 ⟨fun hE => ?_, HMk.out.2.1⟩, fun E hE => ?_⟩)
            · rcases List.mem_cons.1 hE with rfl | hE
              · exact h5
              · exact ((KeepsS.below S HB2.out).trans h2).same E _ (HMk.out.2.2 E hE).2 (HMk.out.1 E hE)
            · have := hlD D hE; omega
            · rcases List.mem_cons.1 hE with rfl | hE
              · exact ⟨by omega, h4⟩
              · refine ⟨(HMk.out.2.2 E hE).1, fun h => ?_⟩
                rcases h2.own E h with h | h
                · exact (HMk.out.2.2 E hE).2 h
                · have := hlD E hE; omega
        case stop =>
          rintro D cd j W' hD hj ⟨rfl, ⟨k, hk, hx⟩, hmk⟩ hDW
          have H5 := Lib.hid (And.intro hx (And.intro hmk (And.intro hD hDW)))
          clear hx hmk hD hDW
          gi_wp2
          obtain ⟨h1, h2, h3, h4⟩ := H5.out
          have hXr := HK.out.size
          have hlD : ∀ E, E ∈ Ds → E < wr.heap.size := fun E hE => hlt_of (HMk.out.1 E hE)
          refine leaves_marks (fun W => Jx k W) (D :: Ds) W' (fun E hE => ?_) (List.nodup_cons.2 ⟨fun hE => ?_, HMk.out.2.1⟩) h1 (fun X E hE hXE hp => ?_) ?_
          · rcases List.mem_cons.1 hE with rfl | hE
            · exact h4
            · exact h2 E hE
          · have := hlD D hE; omega
          · refine HJx.out.put hp _ ?_ hXE rfl
            rcases List.mem_cons.1 hE with rfl | hE
            · omega
            · have := (HMk.out.2.2 E hE).1; have := HB.out.1; omega
          · intro W'' h
            exact ⟨_, results_none rfl _ _ _, ⟨_, rfl⟩, .inr ⟨k, hk, h⟩⟩
      · obtain rfl : c = 4 := by omega
        have HJ4 := Lib.hid HJs.out
        clear hb0 hby3 g1 g1' gy
        gi_wp2
        refine leaves_marks (fun W => ∃ S', J (1 + 4 * l.length) S' W) Ds wr HMk.out.1 HMk.out.2.1 ⟨S, HJ4.out⟩ (fun X E hE hXE hp => ?_) ?_
        · obtain ⟨S', hp⟩ := hp
          refine ⟨S', HJ.out.put (s := (1 + 4 * l.length, S')) hp _ ?_ hXE rfl⟩
          have := (HMk.out.2.2 E hE).1
          have := HB.out.1
          omega
        · rintro W'' ⟨S', h⟩
          exact ⟨_, results_none rfl _ _ _, ⟨_, rfl⟩, .inl ⟨S', h⟩⟩
  · have HJ3 := Lib.hid hJx3
    clear hJx3
    gi_wp2
    refine leaves_marks (fun W => Jx 1 W) [] W3 (fun D h => by simp at h) List.nodup_nil HJ3.out (fun X D h => by simp at h) ?_
    intro W' h
    exact ⟨_, results_none rfl _ _ _, ⟨_, rfl⟩, .inr ⟨1, by omega, h⟩⟩
end Go.Proofs.Ytgnghnekckhcdaa
