/- The document's Glue. -/
import Derived.Test.YtkhlkjhfgfjadaaYd
namespace Go.Proofs.Ytkhlkjhfgfjadaa
open Go.RowKit
set_option maxRecDepth 100000
set_option linter.unusedVariables false
set_option linter.unusedSimpArgs false
def pArr (p : Pt) : Array Value := #[.string p.p0, .string p.p1, .string p.p2, .string p.p3]
def Few (p : Pt) (n : Nat) : Prop := p.p0.size ≤ n ∧ p.p1.size ≤ n ∧ p.p2.size ≤ n ∧ p.p3.size ≤ n
theorem hkeep4 {w : World} {b b' : Nat} {o : Obj} (H : w.heap[b]? = some o) (hn : b ≠ b') (v0 v1 v2 v3 : Value) : ((((w.setCell ⟨b', 0, none⟩ v0).setCell ⟨b', 1, none⟩ v1).setCell ⟨b', 2, none⟩ v2).setCell ⟨b', 3, none⟩ v3).heap[b]? = some o := hother (hother (hother (hother H hn _ _) hn _ _) hn _ _) hn _ _
theorem below4 {w0 w : World} {B b' : Nat} (H : Below B w0 w) (hn : B ≤ b') (v0 v1 v2 v3 : Value) : Below B w0 ((((w.setCell ⟨b', 0, none⟩ v0).setCell ⟨b', 1, none⟩ v1).setCell ⟨b', 2, none⟩ v2).setCell ⟨b', 3, none⟩ v3) := (((H.setCell (p := ⟨b', 0, none⟩) hn _).setCell (p := ⟨b', 1, none⟩) hn _).setCell (p := ⟨b', 2, none⟩) hn _).setCell (p := ⟨b', 3, none⟩) hn _
theorem sec_zero {p : Pt} (h : (secOf p).err ≠ 0) : (secOf p).sec = zeroSc ∧ (secOf p).all = 0 ∧ (secOf p).err = 8 := by
  unfold secOf secsN at h ⊢
  split at h
  · rename_i hb; rw [if_pos hb]; exact ⟨rfl, rfl, rfl⟩
  · exact absurd rfl h
/-- Parts that are not long have their places. -/
theorem sec_few {p : Pt} (h : Few p 300) : secOf p = ⟨⟨127, p.p0.size, 127 + p.p0.size, p.p1.size, 127 + p.p0.size + p.p1.size, p.p2.size, 127 + p.p0.size + p.p1.size + p.p2.size, p.p3.size⟩, 127 + p.p0.size + p.p1.size + p.p2.size + p.p3.size, 0⟩ := by
  obtain ⟨h0, h1, h2, h3⟩ := h
  unfold secOf secsN
  rw [if_neg (by unfold tooBig; omega)]
theorem mayS_few {p : Pt} (h : Few p 300) : MayS (secOf p).sec := by
  rw [sec_few h]
  obtain ⟨h0, h1, h2, h3⟩ := h
  unfold MayS U64
  simp only
  omega
theorem with_may {h : Hd} {s : Sc} (hm : MayH h) (hs : MayS s) : MayH (withN h s) := by
  obtain ⟨a0, a1, a2, a3, a4, a5, a6, a7, r⟩ := hm
  obtain ⟨b0, b1, b2, b3, b4, b5, b6, b7⟩ := hs
  exact ⟨b0, b1, b2, b3, b4, b5, b6, b7, r⟩
set_option maxHeartbeats 4000000 in
theorem rglue_any (h : Hd) (p : Pt) (w : World) (hm : MayH h) (hp : Few p 300) : Calls Try.prog 15 #[.agg (cH h), .agg (pArr p)] w fun e w' => e = .returned (.tuple #[.string (glueN h p).1, .int .i64 (glueN h p).2]) ∧ Below w.heap.size w w' := by
  have hsf := sec_few hp
  have hmx := with_may hm (mayS_few hp)
  have hg : glueN h p = if (encH (withN h (secOf p).sec)).2 ≠ 0 then (noB, (encH (withN h (secOf p).sec)).2) else (str (encH (withN h (secOf p).sec)).1 ++ p.p0 ++ p.p1 ++ p.p2 ++ p.p3, 0) := by
    unfold glueN
    rw [if_neg (by rw [hsf]; simp)]
  obtain ⟨p0, p1, p2, p3⟩ := p
  obtain ⟨l0, l1, l2, l3⟩ := hp
  dsimp only at l0 l1 l2 l3
  obtain ⟨W, hW⟩ : ∃ W, ((w.alloc (.cells (cH h) 27)).alloc (.cells #[.string p0, .string p1, .string p2, .string p3] 44)).alloc (.cells #[.int .u64 0, .int .u64 0, .int .u64 0, .int .u64 0] 23) = W := ⟨_, rfl⟩
  have h0 : HAt W w.heap.size 27 h := by
    rw [← hW]
    exact (heap_alloc_old (by simp; omega)).trans ((heap_alloc_old (by simp)).trans (HAt.made w h _))
  have h1 : Box W (w.heap.size + 1) #[.string p0, .string p1, .string p2, .string p3] := by
    have := box_new (w.alloc (.cells (cH h) 27)) #[.string p0, .string p1, .string p2, .string p3] 44
    rw [World.size_alloc] at this
    rw [← hW]
    exact this.below ((Below.refl _ _).alloc (Nat.le_refl _) _)
  have h2 : Box W (w.heap.size + 1 + 1) #[.int .u64 0, .int .u64 0, .int .u64 0, .int .u64 0] := by
    have := box_new ((w.alloc (.cells (cH h) 27)).alloc (.cells #[.string p0, .string p1, .string p2, .string p3] 44)) #[.int .u64 0, .int .u64 0, .int .u64 0, .int .u64 0] 23
    simp only [World.size_alloc] at this
    rw [← hW]
    exact this
  have hbw : Below w.heap.size w W := by rw [← hW]; exact (((Below.refl _ w).alloc (Nat.le_refl _) _).alloc (by simp) _).alloc (by simp; omega) _
  have s0 := h1.cell 0
  have s1 := h1.cell 1
  have s2 := h1.cell 2
  have s3 := h1.cell 3
  have c0 := h2.cell 0
  have c1 := h2.cell 1
  have c2 := h2.cell 2
  have c3 := h2.cell 3
  have f2 := h2.frz
  simp at s0 s1 s2 s3 c0 c1 c2 c3
  have w0 : IntKind.u64.wrap (p0.size : Int) = (p0.size : Int) := by rw [IntKind.wrap_u64]; omega
  have w1 : IntKind.u64.wrap (p1.size : Int) = (p1.size : Int) := by rw [IntKind.wrap_u64]; omega
  have w2 : IntKind.u64.wrap (p2.size : Int) = (p2.size : Int) := by rw [IntKind.wrap_u64]; omega
  have w3 : IntKind.u64.wrap (p3.size : Int) = (p3.size : Int) := by rw [IntKind.wrap_u64]; omega
  have H4 : Hid (HAt ((((W.setCell ⟨w.heap.size + 1 + 1, 0, none⟩ (.int .u64 p0.size)).setCell ⟨w.heap.size + 1 + 1, 1, none⟩ (.int .u64 p1.size)).setCell ⟨w.heap.size + 1 + 1, 2, none⟩ (.int .u64 p2.size)).setCell ⟨w.heap.size + 1 + 1, 3, none⟩ (.int .u64 p3.size)) w.heap.size 27 h) := Lib.hid (hkeep4 h0 (by omega) _ _ _ _)
  have P4 : Hid (Box ((((W.setCell ⟨w.heap.size + 1 + 1, 0, none⟩ (.int .u64 p0.size)).setCell ⟨w.heap.size + 1 + 1, 1, none⟩ (.int .u64 p1.size)).setCell ⟨w.heap.size + 1 + 1, 2, none⟩ (.int .u64 p2.size)).setCell ⟨w.heap.size + 1 + 1, 3, none⟩ (.int .u64 p3.size)) (w.heap.size + 1) #[.string p0, .string p1, .string p2, .string p3]) := by
    obtain ⟨T, h1⟩ := h1
    exact Lib.hid ⟨T, hkeep4 h1 (by omega) _ _ _ _⟩
  have B4 : Hid (Below w.heap.size w ((((W.setCell ⟨w.heap.size + 1 + 1, 0, none⟩ (.int .u64 p0.size)).setCell ⟨w.heap.size + 1 + 1, 1, none⟩ (.int .u64 p1.size)).setCell ⟨w.heap.size + 1 + 1, 2, none⟩ (.int .u64 p2.size)).setCell ⟨w.heap.size + 1 + 1, 3, none⟩ (.int .u64 p3.size))) := Lib.hid (below4 hbw (by omega) _ _ _ _)
  have HSC := Lib.hid (fun X => rsections_any p0.size p1.size p2.size p3.size X (by omega) (by omega) (by omega) (by omega))
  have hso : secsN p0.size p1.size p2.size p3.size = secOf ⟨p0, p1, p2, p3⟩ := rfl
  rw [hso] at HSC
  have hse : (secOf ⟨p0, p1, p2, p3⟩).err = 0 := by rw [hsf]
  unfold SecEnd at HSC
  rw [hse] at HSC
  generalize secOf ⟨p0, p1, p2, p3⟩ = S at *
  have HEN := Lib.hid (fun X => rencode_any (withN h S.sec) X hmx)
  have HWI := Lib.hid (fun X => rwith_any h S.sec X)
  rw [hg]
  generalize withN h S.sec = hx at *
  obtain ⟨R, hR⟩ : ∃ R, (if (encH hx).2 ≠ 0 then (noB, (encH hx).2) else (str (encH hx).1 ++ p0 ++ p1 ++ p2 ++ p3, 0)) = R := ⟨_, rfl⟩
  rw [hR]
  have HR := Lib.hid hR
  clear hR h0 h1 h2 hbw hg hsf hso hse
  generalize hk : cH h = Hc at *
  have HK := Lib.hid hk
  clear hk
  unfold pArr
  go_enter Try.func15, Try.ntmps15
  go_wp2_with fail
  try rw [hW]
  clear hW
  refine wp_loop_rounds 5 ?_
  rw [rounds_succ]
  go_wp2_with fail
  rw [rounds_succ]
  go_wp2_with fail
  rw [rounds_succ]
  go_wp2_with fail
  rw [rounds_succ]
  go_wp2_with fail
  rw [rounds_succ]
  go_wp2_with fail
  clear s0 s1 s2 s3 c0 c1 c2 c3 f2 w0 w1 w2 w3
  generalize hW4 : (((W.setCell ⟨w.heap.size + 1 + 1, 0, none⟩ (.int .u64 p0.size)).setCell ⟨w.heap.size + 1 + 1, 1, none⟩ (.int .u64 p1.size)).setCell ⟨w.heap.size + 1 + 1, 2, none⟩ (.int .u64 p2.size)).setCell ⟨w.heap.size + 1 + 1, 3, none⟩ (.int .u64 p3.size) = W4 at *
  refine (HSC.out _).mono ?_
  rintro e w1 ⟨rfl, hb1⟩
  unfold sArr
  have hba : Below w1.heap.size w1 (w1.alloc (.cells #[.int .u64 S.sec.rf, .int .u64 S.sec.rl, .int .u64 S.sec.mf, .int .u64 S.sec.ml, .int .u64 S.sec.lf, .int .u64 S.sec.ll, .int .u64 S.sec.df, .int .u64 S.sec.dl] 28)) := (Below.refl _ _).alloc (Nat.le_refl _) _
  have hb2 := hb1.trans (hba.mono hb1.size)
  have HA2 := H4.out.later hb2
  have P2 := Lib.hid (P4.out.below hb2)
  have B2 := Lib.hid (B4.out.trans (hb2.mono B4.out.size))
  unfold HAt at HA2
  rw [HK.out] at HA2
  have hsz : (Try.prog.info? 27).map (·.size) = some Hc.size := by rw [← HK.out]; exact rhead_size
  have HA2 := Lib.hid HA2
  unfold sArr at HWI
  clear hb1 hba hb2 hW4 H4 P4 B4
  go_wp2_with (first | (refine wpList_load_row rfl 27 _ rfl w.heap.size rfl 27 Hc (0, 0) _ HA2.out Try.underlying27 rfl hsz ?_) | fail)
  refine (HWI.out _).mono ?_
  rintro e w3 ⟨rfl, hb3⟩
  have P3 := Lib.hid (P2.out.below hb3)
  have B3 := Lib.hid (B2.out.trans (hb3.mono B2.out.size))
  clear hb3 P2 B2 HA2
  go_wp2_with fail
  refine (HEN.out _).mono ?_
  rintro e w5 ⟨rfl, hb5⟩
  have P5 := P3.out.below hb5
  have B5 := Lib.hid (B3.out.trans (hb5.mono B3.out.size))
  have q0 := P5.cell 0
  have q1 := P5.cell 1
  have q2 := P5.cell 2
  have q3 := P5.cell 3
  simp at q0 q1 q2 q3
  have hsl : (str (encH hx).1).size ≤ 200 := by
    rw [str_size]
    unfold encH
    split
    · rename_i hc
      rw [bytsH_len hx hmx hc]
      omega
    · simp
  clear hb5 P3 B3 P5
  by_cases hz : (encH hx).2 = 0
  · rw [hz]
    have HR2 := HR.out
    rw [if_neg (by simpa using hz)] at HR2
    have HR2 := Lib.hid HR2
    clear hz
    generalize str (encH hx).1 = st at *
    have g1 : (st ++ p0).size ≤ 500 := by rw [ByteArray.size_append]; omega
    have g2 : (st ++ p0 ++ p1).size ≤ 800 := by rw [ByteArray.size_append, ByteArray.size_append]; omega
    have g3 : (st ++ p0 ++ p1 ++ p2).size ≤ 1100 := by rw [ByteArray.size_append, ByteArray.size_append, ByteArray.size_append]; omega
    go_wp2_with fail
    refine bodyPost_ret (results_tmp2 rfl _ _ _) rfl ⟨by rw [← HR2.out]; rfl, B5.out⟩
  · have HR2 := HR.out
    rw [if_pos hz] at HR2
    have HR2 := Lib.hid HR2
    have hzn : ((encH hx).2 != 0) = true := by simpa using hz
    generalize (encH hx).2 = er at *
    clear hz
    go_wp2_with fail
    refine bodyPost_ret (results_tmp2 rfl _ _ _) rfl ⟨by rw [← HR2.out]; rfl, B5.out⟩
end Go.Proofs.Ytkhlkjhfgfjadaa
