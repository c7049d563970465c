/- The walk of SeekTiles. -/
import Derived.Test.YthaembnfdkcheaaAk9d
namespace Go.Proofs.Ythaembnfdkcheaa
open Go.RowKit Go.Shelf
set_option linter.unusedVariables false
set_option linter.unusedSimpArgs false
attribute [local go_sem] Oper.semAt_some
def lsT (xs : List (Int × En)) (k : Nat) : Int := if k = 0 then 0 else idT xs (k - 1)
/-- What holds where a new going through begins. -/
def HeadT (l : List En) (most : Int) (w : World) (a0 : Option Addr) (c0 BX g : Nat) (lb : Array Value) (cN : Int) (X : World) (a : Act) (wr : World) : Prop :=
  ∃ (i : Nat) (Ds : List Nat) (ci : Value), i ≤ 2 ∧ ci = .int .i64 (i : Int) ∧ Hid (Below X.heap.size X wr) ∧ Hid (MkAt Ds wr ∧ Ds.Nodup ∧ ∀ D, D ∈ Ds → X.heap.size ≤ D) ∧ ∃ u2 u9 u10 u11 u12 u13 u14 u15 u16 u17 u18 u19 u20 u21 u22 u23 u24 u25 u26 u27 u28 u29 u30 u31 u32 u33 u34 u35 u36 u37 u38 u39 u40 u41 u42 u43 u44 u45 u46 u47 u48 u49 u50 u51 u52 u53 u54 u55 u56 u57 u58 u59 u60 u61 u62 u63 u64 u65 u66 u67 u68 u69 u70 u71 u72 u73 u74 u75 u76 u77 u78 u79 : Value, a = { tmps := #[.slice a0 l.length c0, .int .u8 most, u2, .pointer (some ⟨w.heap.size, 0, none⟩), .pointer (some ⟨w.heap.size + 1, 0, none⟩), .pointer (some ⟨BX, 0, none⟩), .func (.func g) #[] lb, .int .u64 cN, ci, u9, u10, u11, u12, u13, u14, u15, u16, u17, u18, u19, u20, u21, u22, u23, u24, u25, u26, u27, u28, u29, u30, u31, u32, u33, u34, u35, u36, u37, u38, u39, u40, u41, u42, u43, u44, u45, u46, u47, u48, u49, u50, u51, u52, u53, u54, u55, u56, u57, u58, u59, u60, u61, u62, u63, u64, u65, u66, u67, u68, u69, u70, u71, u72, u73, u74, u75, u76, u77, u78, u79], defers := mksD Ds }
set_option maxRecDepth 100000 in
set_option maxHeartbeats 10000000 in
theorem seektiles_law (v : Value) (l : List En) (most : Int) (w : World) (h : EnsAt w v l) (m : MaysN l) (m0 : 0 ≤ most) (m1 : most ≤ 255) : Calls Try.prog 5 #[v, .int .u8 most] w fun x w' => x = .returned (.bool true) ∧ Below w.heap.size w w' := by
  have HA := Lib.hid awakeS_any
  have H0 := Lib.hid h
  have HM := Lib.hid m
  obtain ⟨a0, c0, rfl, -, -, -⟩ := h
  clear m
  refine (callsIn_wide (n := 10)).1 ?_
  refine callsIn_of_wp_marks Try.func5 rfl trivial ?_ rfl
  simp only [Try.ntmps5, List.size_toArray, List.length_cons, List.length_nil, Nat.reduceAdd, Nat.reduceSub, Array.replicate_succ, Array.replicate_zero, List.push_toArray, List.append_toArray, List.nil_append, List.cons_append]
  have bM0 := (Boxed.new w 5 (.int .u8 most)).alloc (.cells #[.bool false] 4)
  have bR0 := Boxed.new (w.alloc (.cells #[.int .u8 most] 5)) 4 (.bool false)
  have hB0 : Below w.heap.size w ((w.alloc (.cells #[.int .u8 most] 5)).alloc (.cells #[.bool false] 4)) := ((Below.refl _ w).alloc (Nat.le_refl _) _).alloc (by simp) _
  simp only [World.size_alloc] at bR0
  have hsz0 : ((w.alloc (.cells #[.int .u8 most] 5)).alloc (.cells #[.bool false] 4)).heap.size = w.heap.size + 2 := by simp
  have HM0 := Lib.hid bM0
  have HR0 := Lib.hid bR0
  have HB0 := Lib.hid hB0
  clear bM0 bR0 hB0
  by_cases g1 : 200 < l.length
  · have d1 : decide (200 < (l.length : Int)) = true := by simp; omega
    clear g1
    gi_wp2
    refine ⟨trivial, (callsIn_wide.2 (HA.out _)).mono ?_⟩
    rintro y w1 ⟨rfl, hb⟩
    have bR1 := boxed_later HR0.out hb
    have hB1 := HB0.out.trans (hb.mono HB0.out.size)
    have cR := bR1.cell
    have fR := bR1.frozen
    clear hb
    gi_wp2
    exact ⟨_, res_cell rfl _ _ _ true rfl (bR1.set _), rfl, hB1.setCell (p := ⟨w.heap.size + 1, 0, none⟩) (by simp) _⟩
  · have d1 : decide (200 < (l.length : Int)) = false := by simp; omega
    have hl : l.length ≤ 200 := by omega
    clear g1
    gi_wp2
    have hen := H0.out.below HB0.out
    refine ⟨trivial, (callsIn_wide.2 (ownN_any _ l _ hen (by omega))).mono ?_⟩
    rintro y w1 ⟨v1, rfl, ho, hb⟩
    obtain ⟨a1, c1, rfl, -, -, -⟩ := ho.ensAt
    have hba : Below w1.heap.size w1 (w1.alloc (.cells #[.slice a1 l.length c1] 25)) := (Below.refl _ _).alloc (Nat.le_refl _) _
    have hX := (Boxed.new w1 25 (.slice a1 l.length c1))
    have hs1 : w.heap.size + 2 ≤ w1.heap.size := by have := hb.size; omega
    obtain ⟨W1, hW1⟩ : ∃ W1, w1.alloc (.cells #[.slice a1 l.length c1] 25) = W1 := ⟨_, rfl⟩
    have hz1 : W1.heap.size = w1.heap.size + 1 := by rw [← hW1]; simp
    rw [hW1] at hba hX
    have HF1 := Lib.hid (And.intro (boxed_later (boxed_later HM0.out hb) hba) (And.intro (boxed_later (boxed_later HR0.out hb) hba) (And.intro ((HB0.out.trans (hb.mono HB0.out.size)).trans (hba.mono (Nat.le_trans HB0.out.size hb.size))) (And.intro hX (ho.ensAt.below hba)))))
    have cX := hX.cell
    generalize hBX : w1.heap.size = BX at *
    clear hen ho hb hba hX
    gi_wp2
    refine ⟨trivial, (callsIn_wide.2 (ptilD_any _ l _ HF1.out.2.2.2.2 HM.out (by omega))).mono ?_⟩
    rintro y w2 ⟨_, rfl, ⟨g, lb, V, rfl, heg, hV, hseq⟩, hb⟩
    have HF2 := Lib.hid (And.intro (boxed_later HF1.out.1 hb) (And.intro (boxed_later HF1.out.2.1 hb) (And.intro (HF1.out.2.2.1.trans (hb.mono HF1.out.2.2.1.size)) (And.intro (boxed_later HF1.out.2.2.2.1 hb) (HF1.out.2.2.2.2.below hb)))))
    have HSQ := Lib.hid hseq
    have HEG := Lib.hid heg
    have HVV := Lib.hid (fun b hb => (hV b hb).1)
    have hfn := fun W => fnT_eql g lb W
    have cX := HF2.out.2.2.2.1.cell
    have hsz2 := hb.size
    clear hseq heg hV hb hW1
    gi_wp2
    refine ⟨trivial, (callsIn_wide.2 (pcount_any _ l _ HF2.out.2.2.2.2 HM.out (by omega))).mono ?_⟩
    rintro y w3 ⟨rfl, hb⟩
    have HF3 := Lib.hid (And.intro (boxed_later HF2.out.1 hb) (And.intro (boxed_later HF2.out.2.1 hb) (And.intro (HF2.out.2.2.1.trans (hb.mono HF2.out.2.2.1.size)) (And.intro (boxed_later HF2.out.2.2.2.1 hb) (HF2.out.2.2.2.2.below hb)))))
    have HB3 := Lib.hid hb
    have cX := HF3.out.2.2.2.1.cell
    clear hb
    gi_wp2
    refine ⟨trivial, (callsIn_wide.2 (prow_any _ l _ HF3.out.2.2.2.2 HM.out)).mono ?_⟩
    rintro y X ⟨rfl, hb⟩
    have HFX := Lib.hid (And.intro (boxed_later HF3.out.1 hb) (And.intro (boxed_later HF3.out.2.1 hb) (And.intro (HF3.out.2.2.1.trans (hb.mono HF3.out.2.2.1.size)) (And.intro (boxed_later HF3.out.2.2.2.1 hb) (HF3.out.2.2.2.2.below hb)))))
    have HBX := Lib.hid (HB3.out.trans (hb.mono HB3.out.size))
    have hbd := csN_bd (tk l)
    rw [csN_tk l HM.out] at hbd
    have htl := tk_len l
    obtain ⟨N, hN⟩ : ∃ N, (tilesN l).length = N := ⟨_, rfl⟩
    have hsX := hb.size
    have hsX2 := HB3.out.size
    clear hb hfn HF1 HF2 HF3 HB3 cX
    by_cases hr : rowN l = 0
    · have hcn : cntN l = (N : Int) := by rw [← hN]; exact (tiles_len l HM.out hr).symm
      have HRW := Lib.hid (And.intro (tiles_rise HM.out hr) (fun d e hd => tiles_find HM.out hr d e hd))
      rw [hr, hcn]
      have hN9 : N ≤ 1000000000000 := by omega
      clear hr hcn hbd htl
      have HCN : Hid (((N : Int) : Int) = (N : Int)) := Lib.hid rfl
      have HNN := Lib.hid (And.intro hN (And.intro hl hN9))
      clear hN hN9
      gi_wp2
      refine wpIn_loop (HeadT l most w a0 c0 BX g lb (N : Int) X) (fun a _ => 2 - (intOf (a.tmps.getD 8 undef)).toNat) ?h0 ?round
      case h0 => exact ⟨0, [], _, by omega, rfl, Lib.hid (Below.refl _ _), Lib.hid (show MkAt [] X ∧ List.Nodup [] ∧ ∀ D, D ∈ [] → X.heap.size ≤ D from ⟨fun D h => by simp at h, List.nodup_nil, fun D h => by simp at h⟩), _, _, _, _, _, _, _, _, _, _, _, _, _, _, _, _, _, _, _, _, _, _, _, _, _, _, _, _, _, _, _, _, _, _, _, _, _, _, _, _, _, _, _, _, _, _, _, _, _, _, _, _, _, _, _, _, _, _, _, _, _, _, _, _, _, _, _, _, _, _, _, _, rfl⟩
      case round =>
        rintro a wr ⟨i, Ds, ci, hi, rfl, HBr, HMk, u2, u9, u10, u11, u12, u13, u14, u15, u16, u17, u18, u19, u20, u21, u22, u23, u24, u25, u26, u27, u28, u29, u30, u31, u32, u33, u34, u35, u36, u37, u38, u39, u40, u41, u42, u43, u44, u45, u46, u47, u48, u49, u50, u51, u52, u53, u54, u55, u56, u57, u58, u59, u60, u61, u62, u63, u64, u65, u66, u67, u68, u69, u70, u71, u72, u73, u74, u75, u76, u77, u78, u79, rfl⟩
        by_cases hi2 : i < 2
        · have hii : (i : Int) < 2 := by omega
          gi_wp2
          have hb2 : Below wr.heap.size wr ((wr.alloc (.cells #[.int .u64 0] 23)).alloc (.cells #[.int .u64 0] 23)) := ((Below.refl _ _).alloc (Nat.le_refl _) _).alloc (by simp) _
          have bN0 := (Boxed.new wr 23 (.int .u64 0)).alloc (.cells #[.int .u64 0] 23)
          have bL0 := Boxed.new (wr.alloc (.cells #[.int .u64 0] 23)) 23 (.int .u64 0)
          simp only [World.size_alloc] at bL0
          obtain ⟨W1, hW1⟩ : ∃ W1, (wr.alloc (.cells #[.int .u64 0] 23)).alloc (.cells #[.int .u64 0] 23) = W1 := ⟨_, rfl⟩
          have hz1 : W1.heap.size = wr.heap.size + 2 := by rw [← hW1]; simp
          rw [hW1] at hb2 bN0 bL0 ⊢
          clear hW1
          have hsr := HBr.out.size
          obtain ⟨M, hM⟩ : ∃ M : Nat, (M : Int) = most + 100 := ⟨(most + 100).toNat, by omega⟩
          refine range_d2b (n := 10) (val := fun k => .int .u64 (idT (tilesN l) k)) (ent := enT (tilesN l)) (E := 29) (r := 11) (s := 12) rfl HEG.out (HSQ.out W1 (HBX.out.trans ((HBr.out.trans (hb2.mono hsr)).mono (by omega)))) (Below.refl _ _) ?hV
            (fun k S W => ((Boxed W wr.heap.size 23 (.int .u64 (k : Int)) ∧ Boxed W (wr.heap.size + 1) 23 (.int .u64 (lsT (tilesN l) k))) ∧ Below wr.heap.size wr W) ∧ ((∀ b, S b ↔ (b = wr.heap.size ∨ b = wr.heap.size + 1)) ∧ k < M))
            (fun c k W => (c = .exit 2 ∧ k = M) ∧ Boxed W wr.heap.size 23 (.int .u64 (k : Int)) ∧ Below wr.heap.size wr W) ?hI ?hIx ?hG (fun b => b = wr.heap.size ∨ b = wr.heap.size + 1) ?hS0 ?h0 ?assign ?body ?done ?stop
          case hV => intro r hr; have := HVV.out r hr; omega
          case hI => exact Bears.and (Bears.and (Bears.and (boxed_bears _ _ (fun (s : Nat × (Nat → Prop)) => .int .u64 (s.1 : Int)) _) (boxed_bears _ _ (fun (s : Nat × (Nat → Prop)) => .int .u64 (lsT (tilesN l) s.1)) _)) (bears_below (Nat.le_refl _) (by omega) (fun _ h => h.elim))) (fun _ _ _ _ h _ _ => h)
          case hIx => exact fun c => Bears.and (fun _ _ _ _ h _ _ => h) (Bears.and (boxed_bears _ _ (fun (s : Nat) => .int .u64 (s : Int)) _) (bears_below (Nat.le_refl _) (by omega) (fun _ h => h.elim)))
          case hG =>
            rintro k S W ⟨⟨⟨b1, b2⟩, hB⟩, hS, _⟩
            have l1 := b1.lt
            have l2 := b2.lt
            exact ⟨by omega, fun b hb => by rcases (hS b).1 hb with rfl | rfl <;> assumption⟩
          case hS0 =>
            intro b hb
            refine ⟨by omega, fun h => ?_⟩
            have := HVV.out b h
            omega
          case h0 => exact ⟨⟨⟨bN0, bL0⟩, hb2⟩, fun b => Iff.rfl, by omega⟩
          case assign =>
            intro lq k W' K hK
            unfold eC at hK ⊢
            simp only [List.setIfInBounds_toArray, List.set_cons_zero, List.set_cons_succ] at hK ⊢
            gi_wp2
            exact hK
          case body =>
            rintro lq k Bx S W hlq ⟨⟨⟨bN, bL⟩, hB⟩, hS, hkM⟩ hBx hE hk
            have hmem := til_mem (tilesN l) k hk
            have hfd := HRW.out.2 _ _ hmem
            have hmy := tiles_may HM.out _ hmem
            have hls : k = 0 ∨ (0 < k ∧ ¬ idT (tilesN l) k ≤ lsT (tilesN l) k) := by
              rcases Nat.eq_zero_or_pos k with h | h
              · exact .inl h
              · refine .inr ⟨h, ?_⟩
                have := til_rise (tilesN l) HRW.out.1 (k - 1) k (by omega) hk
                unfold lsT
                rw [if_neg (by omega)]
                omega
            have hnx : lsT (tilesN l) (k + 1) = idT (tilesN l) k := by unfold lsT; rw [if_neg (by omega), Nat.add_sub_cancel]
            have HFd := Lib.hid (fun (v : Value) (W : World) (h : EnsAt W v l) => pfind_any v l (idT (tilesN l) k) W h HM.out (by omega) hmy.1.1 hmy.1.2)
            rw [hfd.1] at HFd
            dsimp only at HFd hmy
            have hrn := hfd.2
            generalize idT (tilesN l) k = x at *
            generalize enT (tilesN l) k = e at *
            generalize lsT (tilesN l) k = ls at *
            have HNX := Lib.hid hnx
            unfold eC at HFd ⊢
            have HXW := HBr.out.trans (hB.mono hsr)
            have HI := Lib.hid (And.intro bN (And.intro bL (And.intro hB (And.intro hS hkM))))
            have hen := HFX.out.2.2.2.2.below HXW
            have cX := (boxed_later HFX.out.2.2.2.1 HXW).cell
            have HXW := Lib.hid HXW
            have HEe := Lib.hid hE
            clear hfd hmem hnx bN bL hB hS hE
            simp only [List.setIfInBounds_toArray, List.set_cons_zero, List.set_cons_succ]
            gi_wp2
            refine ⟨trivial, (CallsIn.inRound lq (callsIn_wide.2 (HFd.out _ _ hen))).mono ?_⟩
            rintro y w5 ⟨rfl, hb⟩
            have hba : Below w5.heap.size w5 (w5.alloc (.cells #[.int .u64 e.id, .int .u64 e.off, .int .u32 e.ln, .int .u32 e.rn] 29)) := (Below.refl _ _).alloc (Nat.le_refl _) _
            have hEm : EAt (w5.alloc (.cells #[.int .u64 e.id, .int .u64 e.off, .int .u32 e.ln, .int .u32 e.rn] 29)) w5.heap.size e := EAt.made w5 e _
            obtain ⟨W6, hW6⟩ : ∃ W6, w5.alloc (.cells #[.int .u64 e.id, .int .u64 e.off, .int .u32 e.ln, .int .u32 e.rn] 29) = W6 := ⟨_, rfl⟩
            rw [hW6] at hba hEm
            have hb6 : Below W.heap.size W W6 := hb.trans (hba.mono hb.size)
            have HB6 := Lib.hid hb6
            have bN6 := boxed_later HI.out.1 hb6
            have bL6 := boxed_later HI.out.2.1 hb6
            have bM6 := boxed_later HFX.out.1 (HXW.out.trans (hb6.mono HXW.out.size))
            obtain ⟨e0, e1, e2, e3⟩ := HEe.out.later hb6
            obtain ⟨f0, f1, f2, f3⟩ := hEm
            have cN := bN6.cell
            have cL := bL6.cell
            have cM := bM6.cell
            have fN := bN6.frozen
            have fL := bL6.frozen
            have HBx := Lib.hid (And.intro bN6 (And.intro bL6 hba.size))
            have hq := fun W => eq_entP e e _ W rfl
            rw [decide_eq_true rfl] at hq
            have hrb : (e.rn == 0) = false := by simpa using hrn
            have hwk : IntKind.u64.wrap ((k : Int) + 1) = (k : Int) + 1 := by rw [IntKind.wrap_u64] <;> omega
            have hwm : IntKind.u64.wrap most = most := by rw [IntKind.wrap_u64] <;> omega
            have hwm2 : IntKind.u64.wrap (most + 100) = most + 100 := by rw [IntKind.wrap_u64] <;> omega
            have hne1 : w.heap.size < wr.heap.size := by have := HFX.out.1.lt; omega
            clear hb hba hb6 bN6 bL6 bM6 hen
            rcases hls with hz | ⟨hz, hls⟩
            · have hdk : decide (0 < (k : Int)) = false := by simp; omega
              have hdn : decide (0 < k) = false := by simp; omega
              have HZ := Lib.hid hz
              clear hz
              by_cases hK1 : k + 1 = M
              · have hkm : ((k : Int) + 1 == most + 100) = true := by simp; omega
                have HK1 := Lib.hid hK1
                clear hK1
                gi_wp2
                exact ⟨⟨⟨rfl, HK1.out⟩, (by push_cast; exact (HBx.out.1.set (.int .u64 ((k : Int) + 1))).other (by omega) _), (((HI.out.2.2.1.trans (HB6.out.mono HI.out.2.2.1.size)).setCell (p := ⟨wr.heap.size, 0, none⟩) (Nat.le_refl _) _).setCell (p := ⟨wr.heap.size + 1, 0, none⟩) (Nat.le_succ _) _)⟩, S, (((KeepsS.below S HB6.out).trans (KeepsS.setCell S W6 ⟨wr.heap.size, 0, none⟩ (.int .u64 ((k : Int) + 1)) ((HI.out.2.2.2.1 _).2 (.inl rfl)))).trans (KeepsS.setCell S _ ⟨wr.heap.size + 1, 0, none⟩ (.int .u64 x) ((HI.out.2.2.2.1 _).2 (.inr rfl))))⟩
              · have hkm : ((k : Int) + 1 == most + 100) = false := by simp; omega
                have HK1 := Lib.hid hK1
                clear hK1
                gi_wp2
                exact ⟨S, ⟨⟨⟨(by push_cast; exact (HBx.out.1.set (.int .u64 ((k : Int) + 1))).other (by omega) _), (by rw [HNX.out]; exact (HBx.out.2.1.other (by omega) _).set _)⟩, (((HI.out.2.2.1.trans (HB6.out.mono HI.out.2.2.1.size)).setCell (p := ⟨wr.heap.size, 0, none⟩) (Nat.le_refl _) _).setCell (p := ⟨wr.heap.size + 1, 0, none⟩) (Nat.le_succ _) _)⟩, HI.out.2.2.2.1, by have := HK1.out; have := HI.out.2.2.2.2; omega⟩, (((KeepsS.below S HB6.out).trans (KeepsS.setCell S W6 ⟨wr.heap.size, 0, none⟩ (.int .u64 ((k : Int) + 1)) ((HI.out.2.2.2.1 _).2 (.inl rfl)))).trans (KeepsS.setCell S _ ⟨wr.heap.size + 1, 0, none⟩ (.int .u64 x) ((HI.out.2.2.2.1 _).2 (.inr rfl))))⟩
            · have hdl : decide (x ≤ ls) = false := by simpa using hls
              have hdk : decide (0 < (k : Int)) = true := by simp; omega
              have hdn : decide (0 < k) = true := by simp; omega
              have HZ := Lib.hid hz
              clear hz hls
              by_cases hK1 : k + 1 = M
              · have hkm : ((k : Int) + 1 == most + 100) = true := by simp; omega
                have HK1 := Lib.hid hK1
                clear hK1
                gi_wp2
                exact ⟨⟨⟨rfl, HK1.out⟩, (by push_cast; exact (HBx.out.1.set (.int .u64 ((k : Int) + 1))).other (by omega) _), (((HI.out.2.2.1.trans (HB6.out.mono HI.out.2.2.1.size)).setCell (p := ⟨wr.heap.size, 0, none⟩) (Nat.le_refl _) _).setCell (p := ⟨wr.heap.size + 1, 0, none⟩) (Nat.le_succ _) _)⟩, S, (((KeepsS.below S HB6.out).trans (KeepsS.setCell S W6 ⟨wr.heap.size, 0, none⟩ (.int .u64 ((k : Int) + 1)) ((HI.out.2.2.2.1 _).2 (.inl rfl)))).trans (KeepsS.setCell S _ ⟨wr.heap.size + 1, 0, none⟩ (.int .u64 x) ((HI.out.2.2.2.1 _).2 (.inr rfl))))⟩
              · have hkm : ((k : Int) + 1 == most + 100) = false := by simp; omega
                have HK1 := Lib.hid hK1
                clear hK1
                gi_wp2
                exact ⟨S, ⟨⟨⟨(by push_cast; exact (HBx.out.1.set (.int .u64 ((k : Int) + 1))).other (by omega) _), (by rw [HNX.out]; exact (HBx.out.2.1.other (by omega) _).set _)⟩, (((HI.out.2.2.1.trans (HB6.out.mono HI.out.2.2.1.size)).setCell (p := ⟨wr.heap.size, 0, none⟩) (Nat.le_refl _) _).setCell (p := ⟨wr.heap.size + 1, 0, none⟩) (Nat.le_succ _) _)⟩, HI.out.2.2.2.1, by have := HK1.out; have := HI.out.2.2.2.2; omega⟩, (((KeepsS.below S HB6.out).trans (KeepsS.setCell S W6 ⟨wr.heap.size, 0, none⟩ (.int .u64 ((k : Int) + 1)) ((HI.out.2.2.2.1 _).2 (.inl rfl)))).trans (KeepsS.setCell S _ ⟨wr.heap.size + 1, 0, none⟩ (.int .u64 x) ((HI.out.2.2.2.1 _).2 (.inr rfl))))⟩
          case done =>
            rintro D S W hD hSD ⟨⟨⟨bN, bL⟩, hB⟩, hS, hkM⟩ hDW
            rw [HNN.out.1] at bN hkM
            have HH := Lib.hid (And.intro hD (And.intro hDW hB))
            have bM := boxed_later HFX.out.1 (HBr.out.trans (hB.mono hsr))
            have cN := bN.cell
            have cM := bM.cell
            have hwm : IntKind.u64.wrap most = most := by rw [IntKind.wrap_u64] <;> omega
            have hwm2 : IntKind.u64.wrap (most + 100) = most + 100 := by rw [IntKind.wrap_u64] <;> omega
            have hmn : min ((N : Int) : Int) (most + 100) = (N : Int) := by have := HCN.out; omega
            have hlt : ((N : Int) : Int) ≤ most + 100 := by have := HCN.out; omega
            clear bN bL hB hS hkM hDW hD hSD bM
            gi_wp2
            all_goals
              have hBr2 := HBr.out.trans (HH.out.2.2.mono hsr)
              have hlD : ∀ E, E ∈ Ds → E < wr.heap.size := fun E hE => hlt_of (HMk.out.1 E hE)
              refine ⟨⟨i + 1, D :: Ds, _, by omega, by go_num, Lib.hid hBr2, Lib.hid (show MkAt (D :: Ds) W ∧ (D :: Ds).Nodup ∧ ∀ E, E ∈ D :: Ds → X.heap.size ≤ E from ⟨fun E hE => ?_, List.nodup_cons.2 ⟨fun hE => ?_, HMk.out.2.1⟩, fun E hE => ?_⟩), _, _, _, _, _, _, _, _, _, _, _, _, _, _, _, _, _, _, _, _, _, _, _, _, _, _, _, _, _, _, _, _, _, _, _, _, _, _, _, _, _, _, _, _, _, _, _, _, _, _, _, _, _, _, _, _, _, _, _, _, _, _, _, _, _, _, _, _, _, _, _, _, rfl⟩, by simp [intOf]; omega⟩
              · rcases List.mem_cons.1 hE with rfl | hE
                · exact HH.out.2.1
                · exact (HH.out.2.2.block E (hlD E hE)).trans (HMk.out.1 E hE)
              · have := hlD D hE; have := HH.out.1; omega
              · rcases List.mem_cons.1 hE with rfl | hE
                · have := HH.out.1; omega
                · exact HMk.out.2.2 E hE
          case stop =>
            rintro D c k W hD hk ⟨⟨rfl, hkM⟩, bN, hB⟩ hDW
            rw [HNN.out.1] at hk
            have HH := Lib.hid (And.intro hD (And.intro hDW hB))
            have bM := boxed_later HFX.out.1 (HBr.out.trans (hB.mono hsr))
            have cN := bN.cell
            have cM := bM.cell
            have hwm : IntKind.u64.wrap most = most := by rw [IntKind.wrap_u64] <;> omega
            have hwm2 : IntKind.u64.wrap (most + 100) = most + 100 := by rw [IntKind.wrap_u64] <;> omega
            have hkk : (k : Int) = most + 100 := by omega
            rw [hkk] at cN
            have hmn : min ((N : Int) : Int) (most + 100) = most + 100 := by have := HCN.out; omega
            clear bN hB hDW hD hkM hkk bM
            gi_wp2
            all_goals
              have hBr2 := HBr.out.trans (HH.out.2.2.mono hsr)
              have hlD : ∀ E, E ∈ Ds → E < wr.heap.size := fun E hE => hlt_of (HMk.out.1 E hE)
              refine ⟨⟨i + 1, D :: Ds, _, by omega, by go_num, Lib.hid hBr2, Lib.hid (show MkAt (D :: Ds) W ∧ (D :: Ds).Nodup ∧ ∀ E, E ∈ D :: Ds → X.heap.size ≤ E from ⟨fun E hE => ?_, List.nodup_cons.2 ⟨fun hE => ?_, HMk.out.2.1⟩, fun E hE => ?_⟩), _, _, _, _, _, _, _, _, _, _, _, _, _, _, _, _, _, _, _, _, _, _, _, _, _, _, _, _, _, _, _, _, _, _, _, _, _, _, _, _, _, _, _, _, _, _, _, _, _, _, _, _, _, _, _, _, _, _, _, _, _, _, _, _, _, _, _, _, _, _, _, _, rfl⟩, by simp [intOf]; omega⟩
              · rcases List.mem_cons.1 hE with rfl | hE
                · exact HH.out.2.1
                · exact (HH.out.2.2.block E (hlD E hE)).trans (HMk.out.1 E hE)
              · have := hlD D hE; have := HH.out.1; omega
              · rcases List.mem_cons.1 hE with rfl | hE
                · have := HH.out.1; omega
                · exact HMk.out.2.2 E hE
        · obtain rfl : i = 2 := by omega
          have bR := boxed_later HFX.out.2.1 HBr.out
          have cR := bR.cell
          have fR := bR.frozen
          have HRR := Lib.hid bR
          clear bR
          gi_wp2
          refine ⟨trivial, (callsIn_wide.2 (HA.out _)).mono ?_⟩
          rintro y w9 ⟨rfl, hb⟩
          have bR := boxed_later HRR.out hb
          have cR := bR.cell
          have fR := bR.frozen
          have hz := HFX.out.2.2.1.size
          have HE := Lib.hid (And.intro bR ((HFX.out.2.2.1.trans (HBr.out.mono HFX.out.2.2.1.size)).trans (hb.mono (Nat.le_trans HFX.out.2.2.1.size HBr.out.size))))
          have HMk9 := Lib.hid (show MkAt Ds w9 from fun D hD => (hb.block D (hlt_of (HMk.out.1 D hD))).trans (HMk.out.1 D hD))
          clear hb bR
          gi_wp2
          have hX2 := HFX.out.2.2.1.size
          refine leaves_marks (fun W => Boxed W (w.heap.size + 1) 4 (.bool true) ∧ Below w.heap.size w W) Ds _ (fun D hD => ?_) HMk.out.2.1 ⟨HE.out.1.set _, HE.out.2.setCell (p := ⟨w.heap.size + 1, 0, none⟩) (Nat.le_succ _) _⟩ (fun Y D hD hY hp => ⟨?_, ?_⟩) ?_
          · have h9 := HMk9.out D hD
            refine (Below.heap_setCell _ _ _ D (fun e => ?_)).trans h9
            have := HMk.out.2.2 D hD
            have := HFX.out.2.1.lt
            dsimp only at e
            omega
          · exact hp.1.kept (grownBy_putObj' Y D _) (fun e => by
              have := HMk.out.2.2 D hD
              have := HFX.out.2.1.lt
              have e' : w.heap.size + 1 = D := by simpa using e
              omega)
          · exact (bears_below (β := Unit) (T := fun _ => False) (Nat.le_refl _) (B := w.heap.size) (Nat.le_refl _) (fun _ h => h.elim)).put (s := ()) hp.2 _ (by have := HMk.out.2.2 D hD; omega) hY rfl
          · rintro W' ⟨h5, h6⟩
            exact ⟨_, res_cell rfl _ _ _ true rfl h5, rfl, h6⟩
    · have hti : tilesN l = [] := by unfold tilesN; rw [if_neg hr]
      have hN0 : N = 0 := by rw [← hN, hti]; rfl
      have HRW : Hid ((tilesN l).Pairwise (fun a b => a.1 < b.1) ∧ ∀ d e, (d, e) ∈ tilesN l → findN l d = (e, true) ∧ e.rn ≠ 0) := Lib.hid (by rw [hti]; exact ⟨List.Pairwise.nil, fun d e h => by simp at h⟩)
      have hne : (rowN l == 0) = false := by simpa using hr
      generalize rowN l = rr at *
      generalize cntN l = cc at *
      have hN9 : N ≤ 1000000000000 := by omega
      clear hr hti hbd htl
      have hN1 : (0 : Int) = (N : Int) := by omega
      have HN1 := Lib.hid hN1
      clear hN1 hN0
      have HCN : Hid ((0 : Int) = (N : Int)) := Lib.hid HN1.out
      have HNN := Lib.hid (And.intro hN (And.intro hl hN9))
      clear hN hN9
      gi_wp2
      refine wpIn_loop (HeadT l most w a0 c0 BX g lb 0 X) (fun a _ => 2 - (intOf (a.tmps.getD 8 undef)).toNat) ?h0 ?round
      case h0 => exact ⟨0, [], _, by omega, rfl, Lib.hid (Below.refl _ _), Lib.hid (show MkAt [] X ∧ List.Nodup [] ∧ ∀ D, D ∈ [] → X.heap.size ≤ D from ⟨fun D h => by simp at h, List.nodup_nil, fun D h => by simp at h⟩), _, _, _, _, _, _, _, _, _, _, _, _, _, _, _, _, _, _, _, _, _, _, _, _, _, _, _, _, _, _, _, _, _, _, _, _, _, _, _, _, _, _, _, _, _, _, _, _, _, _, _, _, _, _, _, _, _, _, _, _, _, _, _, _, _, _, _, _, _, _, _, _, rfl⟩
      case round =>
        rintro a wr ⟨i, Ds, ci, hi, rfl, HBr, HMk, u2, u9, u10, u11, u12, u13, u14, u15, u16, u17, u18, u19, u20, u21, u22, u23, u24, u25, u26, u27, u28, u29, u30, u31, u32, u33, u34, u35, u36, u37, u38, u39, u40, u41, u42, u43, u44, u45, u46, u47, u48, u49, u50, u51, u52, u53, u54, u55, u56, u57, u58, u59, u60, u61, u62, u63, u64, u65, u66, u67, u68, u69, u70, u71, u72, u73, u74, u75, u76, u77, u78, u79, rfl⟩
        by_cases hi2 : i < 2
        · have hii : (i : Int) < 2 := by omega
          gi_wp2
          have hb2 : Below wr.heap.size wr ((wr.alloc (.cells #[.int .u64 0] 23)).alloc (.cells #[.int .u64 0] 23)) := ((Below.refl _ _).alloc (Nat.le_refl _) _).alloc (by simp) _
          have bN0 := (Boxed.new wr 23 (.int .u64 0)).alloc (.cells #[.int .u64 0] 23)
          have bL0 := Boxed.new (wr.alloc (.cells #[.int .u64 0] 23)) 23 (.int .u64 0)
          simp only [World.size_alloc] at bL0
          obtain ⟨W1, hW1⟩ : ∃ W1, (wr.alloc (.cells #[.int .u64 0] 23)).alloc (.cells #[.int .u64 0] 23) = W1 := ⟨_, rfl⟩
          have hz1 : W1.heap.size = wr.heap.size + 2 := by rw [← hW1]; simp
          rw [hW1] at hb2 bN0 bL0 ⊢
          clear hW1
          have hsr := HBr.out.size
          obtain ⟨M, hM⟩ : ∃ M : Nat, (M : Int) = most + 100 := ⟨(most + 100).toNat, by omega⟩
          refine range_d2b (n := 10) (val := fun k => .int .u64 (idT (tilesN l) k)) (ent := enT (tilesN l)) (E := 29) (r := 11) (s := 12) rfl HEG.out (HSQ.out W1 (HBX.out.trans ((HBr.out.trans (hb2.mono hsr)).mono (by omega)))) (Below.refl _ _) ?hV
            (fun k S W => ((Boxed W wr.heap.size 23 (.int .u64 (k : Int)) ∧ Boxed W (wr.heap.size + 1) 23 (.int .u64 (lsT (tilesN l) k))) ∧ Below wr.heap.size wr W) ∧ ((∀ b, S b ↔ (b = wr.heap.size ∨ b = wr.heap.size + 1)) ∧ k < M))
            (fun c k W => (c = .exit 2 ∧ k = M) ∧ Boxed W wr.heap.size 23 (.int .u64 (k : Int)) ∧ Below wr.heap.size wr W) ?hI ?hIx ?hG (fun b => b = wr.heap.size ∨ b = wr.heap.size + 1) ?hS0 ?h0 ?assign ?body ?done ?stop
          case hV => intro r hr; have := HVV.out r hr; omega
          case hI => exact Bears.and (Bears.and (Bears.and (boxed_bears _ _ (fun (s : Nat × (Nat → Prop)) => .int .u64 (s.1 : Int)) _) (boxed_bears _ _ (fun (s : Nat × (Nat → Prop)) => .int .u64 (lsT (tilesN l) s.1)) _)) (bears_below (Nat.le_refl _) (by omega) (fun _ h => h.elim))) (fun _ _ _ _ h _ _ => h)
          case hIx => exact fun c => Bears.and (fun _ _ _ _ h _ _ => h) (Bears.and (boxed_bears _ _ (fun (s : Nat) => .int .u64 (s : Int)) _) (bears_below (Nat.le_refl _) (by omega) (fun _ h => h.elim)))
          case hG =>
            rintro k S W ⟨⟨⟨b1, b2⟩, hB⟩, hS, _⟩
            have l1 := b1.lt
            have l2 := b2.lt
            exact ⟨by omega, fun b hb => by rcases (hS b).1 hb with rfl | rfl <;> assumption⟩
          case hS0 =>
            intro b hb
            refine ⟨by omega, fun h => ?_⟩
            have := HVV.out b h
            omega
          case h0 => exact ⟨⟨⟨bN0, bL0⟩, hb2⟩, fun b => Iff.rfl, by omega⟩
          case assign =>
            intro lq k W' K hK
            unfold eC at hK ⊢
            simp only [List.setIfInBounds_toArray, List.set_cons_zero, List.set_cons_succ] at hK ⊢
            gi_wp2
            exact hK
          case body =>
            rintro lq k Bx S W hlq ⟨⟨⟨bN, bL⟩, hB⟩, hS, hkM⟩ hBx hE hk
            have hmem := til_mem (tilesN l) k hk
            have hfd := HRW.out.2 _ _ hmem
            have hmy := tiles_may HM.out _ hmem
            have hls : k = 0 ∨ (0 < k ∧ ¬ idT (tilesN l) k ≤ lsT (tilesN l) k) := by
              rcases Nat.eq_zero_or_pos k with h | h
              · exact .inl h
              · refine .inr ⟨h, ?_⟩
                have := til_rise (tilesN l) HRW.out.1 (k - 1) k (by omega) hk
                unfold lsT
                rw [if_neg (by omega)]
                omega
            have hnx : lsT (tilesN l) (k + 1) = idT (tilesN l) k := by unfold lsT; rw [if_neg (by omega), Nat.add_sub_cancel]
            have HFd := Lib.hid (fun (v : Value) (W : World) (h : EnsAt W v l) => pfind_any v l (idT (tilesN l) k) W h HM.out (by omega) hmy.1.1 hmy.1.2)
            rw [hfd.1] at HFd
            dsimp only at HFd hmy
            have hrn := hfd.2
            generalize idT (tilesN l) k = x at *
            generalize enT (tilesN l) k = e at *
            generalize lsT (tilesN l) k = ls at *
            have HNX := Lib.hid hnx
            unfold eC at HFd ⊢
            have HXW := HBr.out.trans (hB.mono hsr)
            have HI := Lib.hid (And.intro bN (And.intro bL (And.intro hB (And.intro hS hkM))))
            have hen := HFX.out.2.2.2.2.below HXW
            have cX := (boxed_later HFX.out.2.2.2.1 HXW).cell
            have HXW := Lib.hid HXW
            have HEe := Lib.hid hE
            clear hfd hmem hnx bN bL hB hS hE
            simp only [List.setIfInBounds_toArray, List.set_cons_zero, List.set_cons_succ]
            gi_wp2
            refine ⟨trivial, (CallsIn.inRound lq (callsIn_wide.2 (HFd.out _ _ hen))).mono ?_⟩
            rintro y w5 ⟨rfl, hb⟩
            have hba : Below w5.heap.size w5 (w5.alloc (.cells #[.int .u64 e.id, .int .u64 e.off, .int .u32 e.ln, .int .u32 e.rn] 29)) := (Below.refl _ _).alloc (Nat.le_refl _) _
            have hEm : EAt (w5.alloc (.cells #[.int .u64 e.id, .int .u64 e.off, .int .u32 e.ln, .int .u32 e.rn] 29)) w5.heap.size e := EAt.made w5 e _
            obtain ⟨W6, hW6⟩ : ∃ W6, w5.alloc (.cells #[.int .u64 e.id, .int .u64 e.off, .int .u32 e.ln, .int .u32 e.rn] 29) = W6 := ⟨_, rfl⟩
            rw [hW6] at hba hEm
            have hb6 : Below W.heap.size W W6 := hb.trans (hba.mono hb.size)
            have HB6 := Lib.hid hb6
            have bN6 := boxed_later HI.out.1 hb6
            have bL6 := boxed_later HI.out.2.1 hb6
            have bM6 := boxed_later HFX.out.1 (HXW.out.trans (hb6.mono HXW.out.size))
            obtain ⟨e0, e1, e2, e3⟩ := HEe.out.later hb6
            obtain ⟨f0, f1, f2, f3⟩ := hEm
            have cN := bN6.cell
            have cL := bL6.cell
            have cM := bM6.cell
            have fN := bN6.frozen
            have fL := bL6.frozen
            have HBx := Lib.hid (And.intro bN6 (And.intro bL6 hba.size))
            have hq := fun W => eq_entP e e _ W rfl
            rw [decide_eq_true rfl] at hq
            have hrb : (e.rn == 0) = false := by simpa using hrn
            have hwk : IntKind.u64.wrap ((k : Int) + 1) = (k : Int) + 1 := by rw [IntKind.wrap_u64] <;> omega
            have hwm : IntKind.u64.wrap most = most := by rw [IntKind.wrap_u64] <;> omega
            have hwm2 : IntKind.u64.wrap (most + 100) = most + 100 := by rw [IntKind.wrap_u64] <;> omega
            have hne1 : w.heap.size < wr.heap.size := by have := HFX.out.1.lt; omega
            clear hb hba hb6 bN6 bL6 bM6 hen
            rcases hls with hz | ⟨hz, hls⟩
            · have hdk : decide (0 < (k : Int)) = false := by simp; omega
              have hdn : decide (0 < k) = false := by simp; omega
              have HZ := Lib.hid hz
              clear hz
              by_cases hK1 : k + 1 = M
              · have hkm : ((k : Int) + 1 == most + 100) = true := by simp; omega
                have HK1 := Lib.hid hK1
                clear hK1
                gi_wp2
                exact ⟨⟨⟨rfl, HK1.out⟩, (by push_cast; exact (HBx.out.1.set (.int .u64 ((k : Int) + 1))).other (by omega) _), (((HI.out.2.2.1.trans (HB6.out.mono HI.out.2.2.1.size)).setCell (p := ⟨wr.heap.size, 0, none⟩) (Nat.le_refl _) _).setCell (p := ⟨wr.heap.size + 1, 0, none⟩) (Nat.le_succ _) _)⟩, S, (((KeepsS.below S HB6.out).trans (KeepsS.setCell S W6 ⟨wr.heap.size, 0, none⟩ (.int .u64 ((k : Int) + 1)) ((HI.out.2.2.2.1 _).2 (.inl rfl)))).trans (KeepsS.setCell S _ ⟨wr.heap.size + 1, 0, none⟩ (.int .u64 x) ((HI.out.2.2.2.1 _).2 (.inr rfl))))⟩
              · have hkm : ((k : Int) + 1 == most + 100) = false := by simp; omega
                have HK1 := Lib.hid hK1
                clear hK1
                gi_wp2
                exact ⟨S, ⟨⟨⟨(by push_cast; exact (HBx.out.1.set (.int .u64 ((k : Int) + 1))).other (by omega) _), (by rw [HNX.out]; exact (HBx.out.2.1.other (by omega) _).set _)⟩, (((HI.out.2.2.1.trans (HB6.out.mono HI.out.2.2.1.size)).setCell (p := ⟨wr.heap.size, 0, none⟩) (Nat.le_refl _) _).setCell (p := ⟨wr.heap.size + 1, 0, none⟩) (Nat.le_succ _) _)⟩, HI.out.2.2.2.1, by have := HK1.out; have := HI.out.2.2.2.2; omega⟩, (((KeepsS.below S HB6.out).trans (KeepsS.setCell S W6 ⟨wr.heap.size, 0, none⟩ (.int .u64 ((k : Int) + 1)) ((HI.out.2.2.2.1 _).2 (.inl rfl)))).trans (KeepsS.setCell S _ ⟨wr.heap.size + 1, 0, none⟩ (.int .u64 x) ((HI.out.2.2.2.1 _).2 (.inr rfl))))⟩
            · have hdl : decide (x ≤ ls) = false := by simpa using hls
              have hdk : decide (0 < (k : Int)) = true := by simp; omega
              have hdn : decide (0 < k) = true := by simp; omega
              have HZ := Lib.hid hz
              clear hz hls
              by_cases hK1 : k + 1 = M
              · have hkm : ((k : Int) + 1 == most + 100) = true := by simp; omega
                have HK1 := Lib.hid hK1
                clear hK1
                gi_wp2
                exact ⟨⟨⟨rfl, HK1.out⟩, (by push_cast; exact (HBx.out.1.set (.int .u64 ((k : Int) + 1))).other (by omega) _), (((HI.out.2.2.1.trans (HB6.out.mono HI.out.2.2.1.size)).setCell (p := ⟨wr.heap.size, 0, none⟩) (Nat.le_refl _) _).setCell (p := ⟨wr.heap.size + 1, 0, none⟩) (Nat.le_succ _) _)⟩, S, (((KeepsS.below S HB6.out).trans (KeepsS.setCell S W6 ⟨wr.heap.size, 0, none⟩ (.int .u64 ((k : Int) + 1)) ((HI.out.2.2.2.1 _).2 (.inl rfl)))).trans (KeepsS.setCell S _ ⟨wr.heap.size + 1, 0, none⟩ (.int .u64 x) ((HI.out.2.2.2.1 _).2 (.inr rfl))))⟩
              · have hkm : ((k : Int) + 1 == most + 100) = false := by simp; omega
                have HK1 := Lib.hid hK1
                clear hK1
                gi_wp2
                exact ⟨S, ⟨⟨⟨(by push_cast; exact (HBx.out.1.set (.int .u64 ((k : Int) + 1))).other (by omega) _), (by rw [HNX.out]; exact (HBx.out.2.1.other (by omega) _).set _)⟩, (((HI.out.2.2.1.trans (HB6.out.mono HI.out.2.2.1.size)).setCell (p := ⟨wr.heap.size, 0, none⟩) (Nat.le_refl _) _).setCell (p := ⟨wr.heap.size + 1, 0, none⟩) (Nat.le_succ _) _)⟩, HI.out.2.2.2.1, by have := HK1.out; have := HI.out.2.2.2.2; omega⟩, (((KeepsS.below S HB6.out).trans (KeepsS.setCell S W6 ⟨wr.heap.size, 0, none⟩ (.int .u64 ((k : Int) + 1)) ((HI.out.2.2.2.1 _).2 (.inl rfl)))).trans (KeepsS.setCell S _ ⟨wr.heap.size + 1, 0, none⟩ (.int .u64 x) ((HI.out.2.2.2.1 _).2 (.inr rfl))))⟩
          case done =>
            rintro D S W hD hSD ⟨⟨⟨bN, bL⟩, hB⟩, hS, hkM⟩ hDW
            rw [HNN.out.1] at bN hkM
            have HH := Lib.hid (And.intro hD (And.intro hDW hB))
            have bM := boxed_later HFX.out.1 (HBr.out.trans (hB.mono hsr))
            have cN := bN.cell
            have cM := bM.cell
            have hwm : IntKind.u64.wrap most = most := by rw [IntKind.wrap_u64] <;> omega
            have hwm2 : IntKind.u64.wrap (most + 100) = most + 100 := by rw [IntKind.wrap_u64] <;> omega
            have hmn : min (0 : Int) (most + 100) = (N : Int) := by have := HCN.out; omega
            have hlt : (0 : Int) ≤ most + 100 := by have := HCN.out; omega
            clear bN bL hB hS hkM hDW hD hSD bM
            gi_wp2
            all_goals
              have hBr2 := HBr.out.trans (HH.out.2.2.mono hsr)
              have hlD : ∀ E, E ∈ Ds → E < wr.heap.size := fun E hE => hlt_of (HMk.out.1 E hE)
              refine ⟨⟨i + 1, D :: Ds, _, by omega, by go_num, Lib.hid hBr2, Lib.hid (show MkAt (D :: Ds) W ∧ (D :: Ds).Nodup ∧ ∀ E, E ∈ D :: Ds → X.heap.size ≤ E from ⟨fun E hE => ?_, List.nodup_cons.2 ⟨fun hE => ?_, HMk.out.2.1⟩, fun E hE => ?_⟩), _, _, _, _, _, _, _, _, _, _, _, _, _, _, _, _, _, _, _, _, _, _, _, _, _, _, _, _, _, _, _, _, _, _, _, _, _, _, _, _, _, _, _, _, _, _, _, _, _, _, _, _, _, _, _, _, _, _, _, _, _, _, _, _, _, _, _, _, _, _, _, _, rfl⟩, by simp [intOf]; omega⟩
              · rcases List.mem_cons.1 hE with rfl | hE
                · exact HH.out.2.1
                · exact (HH.out.2.2.block E (hlD E hE)).trans (HMk.out.1 E hE)
              · have := hlD D hE; have := HH.out.1; omega
              · rcases List.mem_cons.1 hE with rfl | hE
                · have := HH.out.1; omega
                · exact HMk.out.2.2 E hE
          case stop =>
            rintro D c k W hD hk ⟨⟨rfl, hkM⟩, bN, hB⟩ hDW
            rw [HNN.out.1] at hk
            have HH := Lib.hid (And.intro hD (And.intro hDW hB))
            have bM := boxed_later HFX.out.1 (HBr.out.trans (hB.mono hsr))
            have cN := bN.cell
            have cM := bM.cell
            have hwm : IntKind.u64.wrap most = most := by rw [IntKind.wrap_u64] <;> omega
            have hwm2 : IntKind.u64.wrap (most + 100) = most + 100 := by rw [IntKind.wrap_u64] <;> omega
            have hkk : (k : Int) = most + 100 := by omega
            rw [hkk] at cN
            have hmn : min (0 : Int) (most + 100) = most + 100 := by have := HCN.out; omega
            clear bN hB hDW hD hkM hkk bM
            gi_wp2
            all_goals
              have hBr2 := HBr.out.trans (HH.out.2.2.mono hsr)
              have hlD : ∀ E, E ∈ Ds → E < wr.heap.size := fun E hE => hlt_of (HMk.out.1 E hE)
              refine ⟨⟨i + 1, D :: Ds, _, by omega, by go_num, Lib.hid hBr2, Lib.hid (show MkAt (D :: Ds) W ∧ (D :: Ds).Nodup ∧ ∀ E, E ∈ D :: Ds → X.heap.size ≤ E from ⟨fun E hE => ?_, List.nodup_cons.2 ⟨fun hE => ?_, HMk.out.2.1⟩, fun E hE => ?_⟩), _, _, _, _, _, _, _, _, _, _, _, _, _, _, _, _, _, _, _, _, _, _, _, _, _, _, _, _, _, _, _, _, _, _, _, _, _, _, _, _, _, _, _, _, _, _, _, _, _, _, _, _, _, _, _, _, _, _, _, _, _, _, _, _, _, _, _, _, _, _, _, _, rfl⟩, by simp [intOf]; omega⟩
              · rcases List.mem_cons.1 hE with rfl | hE
                · exact HH.out.2.1
                · exact (HH.out.2.2.block E (hlD E hE)).trans (HMk.out.1 E hE)
              · have := hlD D hE; have := HH.out.1; omega
              · rcases List.mem_cons.1 hE with rfl | hE
                · have := HH.out.1; omega
                · exact HMk.out.2.2 E hE
        · obtain rfl : i = 2 := by omega
          have bR := boxed_later HFX.out.2.1 HBr.out
          have cR := bR.cell
          have fR := bR.frozen
          have HRR := Lib.hid bR
          clear bR
          gi_wp2
          refine ⟨trivial, (callsIn_wide.2 (HA.out _)).mono ?_⟩
          rintro y w9 ⟨rfl, hb⟩
          have bR := boxed_later HRR.out hb
          have cR := bR.cell
          have fR := bR.frozen
          have hz := HFX.out.2.2.1.size
          have HE := Lib.hid (And.intro bR ((HFX.out.2.2.1.trans (HBr.out.mono HFX.out.2.2.1.size)).trans (hb.mono (Nat.le_trans HFX.out.2.2.1.size HBr.out.size))))
          have HMk9 := Lib.hid (show MkAt Ds w9 from fun D hD => (hb.block D (hlt_of (HMk.out.1 D hD))).trans (HMk.out.1 D hD))
          clear hb bR
          gi_wp2
          have hX2 := HFX.out.2.2.1.size
          refine leaves_marks (fun W => Boxed W (w.heap.size + 1) 4 (.bool true) ∧ Below w.heap.size w W) Ds _ (fun D hD => ?_) HMk.out.2.1 ⟨HE.out.1.set _, HE.out.2.setCell (p := ⟨w.heap.size + 1, 0, none⟩) (Nat.le_succ _) _⟩ (fun Y D hD hY hp => ⟨?_, ?_⟩) ?_
          · have h9 := HMk9.out D hD
            refine (Below.heap_setCell _ _ _ D (fun e => ?_)).trans h9
            have := HMk.out.2.2 D hD
            have := HFX.out.2.1.lt
            dsimp only at e
            omega
          · exact hp.1.kept (grownBy_putObj' Y D _) (fun e => by
              have := HMk.out.2.2 D hD
              have := HFX.out.2.1.lt
              have e' : w.heap.size + 1 = D := by simpa using e
              omega)
          · exact (bears_below (β := Unit) (T := fun _ => False) (Nat.le_refl _) (B := w.heap.size) (Nat.le_refl _) (fun _ h => h.elim)).put (s := ()) hp.2 _ (by have := HMk.out.2.2 D hD; omega) hY rfl
          · rintro W' ⟨h5, h6⟩
            exact ⟨_, res_cell rfl _ _ _ true rfl h5, rfl, h6⟩
end Go.Proofs.Ythaembnfdkcheaa
