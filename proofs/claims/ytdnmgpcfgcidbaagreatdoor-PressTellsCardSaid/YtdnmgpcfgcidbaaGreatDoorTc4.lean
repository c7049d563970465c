/- cMN cMV cYc cYe cPa cPb cPc cPd. -/
import Derived.Test.YtdnmgpcfgcidbaaGreatDoorTc3
namespace Go.Proofs.YtdnmgpcfgcidbaaGreatDoor
set_option linter.unusedVariables false
set_option linter.unusedSimpArgs false
open Go.RowKit
set_option maxRecDepth 20000
open Go.RowKit
set_option maxRecDepth 20000
theorem heap_alloc_old {w:World} {o:Obj} {k:Nat} (h:k<w.heap.size):(w.alloc o).heap[k]?=w.heap[k]?:=((Below.refl w.heap.size w).alloc (Nat.le_refl _) o).block k h
end Go.Proofs.YtdnmgpcfgcidbaaGreatDoor
namespace Go.Proofs.YtdnmgpcfgcidbaaGreatDoor
set_option linter.unusedVariables false
set_option linter.unusedSimpArgs false
open Go.RowKit
set_option maxRecDepth 20000
def hA:Hd:={ zeroH with knd:=2,z1:=3,lo0:=-1 }
end Go.Proofs.YtdnmgpcfgcidbaaGreatDoor
namespace Go.Proofs.YtdnmgpcfgcidbaaGreatDoor
set_option linter.unusedVariables false
set_option linter.unusedSimpArgs false
open Go.RowKit
set_option maxRecDepth 100000
theorem HAt.secs {w:World} {b:Nat} {T:TypeId} {h:Hd} (H:HAt w b T h) (s:Sc):HAt ((((((((w.setCell ⟨b,0,none⟩ (.int .u64 s.rf)).setCell ⟨b,1,none⟩ (.int .u64 s.rl)).setCell ⟨b,2,none⟩ (.int .u64 s.mf)).setCell ⟨b,3,none⟩ (.int .u64 s.ml)).setCell ⟨b,4,none⟩ (.int .u64 s.lf)).setCell ⟨b,5,none⟩ (.int .u64 s.ll)).setCell ⟨b,6,none⟩ (.int .u64 s.df)).setCell ⟨b,7,none⟩ (.int .u64 s.dl)) b T (withN h s):=by
 unfold HAt at H ⊢
 have:=hset (hset (hset (hset (hset (hset (hset (hset H 0 (.int .u64 s.rf)) 1 (.int .u64 s.rl)) 2 (.int .u64 s.mf)) 3 (.int .u64 s.ml)) 4 (.int .u64 s.lf)) 5 (.int .u64 s.ll)) 6 (.int .u64 s.df)) 7 (.int .u64 s.dl)
 simp only[cH,List.setIfInBounds_toArray,List.set_cons_zero,List.set_cons_succ] at this
 exact this
theorem HAt.secs_far {w:World} {b b':Nat} {T:TypeId} {h:Hd} (H:HAt w b T h) (hn:b≠b') (s:Sc):HAt ((((((((w.setCell ⟨b',0,none⟩ (.int .u64 s.rf)).setCell ⟨b',1,none⟩ (.int .u64 s.rl)).setCell ⟨b',2,none⟩ (.int .u64 s.mf)).setCell ⟨b',3,none⟩ (.int .u64 s.ml)).setCell ⟨b',4,none⟩ (.int .u64 s.lf)).setCell ⟨b',5,none⟩ (.int .u64 s.ll)).setCell ⟨b',6,none⟩ (.int .u64 s.df)).setCell ⟨b',7,none⟩ (.int .u64 s.dl)) b T h:=by
 unfold HAt at H ⊢
 exact hother (hother (hother (hother (hother (hother (hother (hother H hn _ _) hn _ _) hn _ _) hn _ _) hn _ _) hn _ _) hn _ _) hn _ _
theorem below_secs {w0 w:World} {B b':Nat} (H:Below B w0 w) (hn:B≤b') (s:Sc):Below B w0 ((((((((w.setCell ⟨b',0,none⟩ (.int .u64 s.rf)).setCell ⟨b',1,none⟩ (.int .u64 s.rl)).setCell ⟨b',2,none⟩ (.int .u64 s.mf)).setCell ⟨b',3,none⟩ (.int .u64 s.ml)).setCell ⟨b',4,none⟩ (.int .u64 s.lf)).setCell ⟨b',5,none⟩ (.int .u64 s.ll)).setCell ⟨b',6,none⟩ (.int .u64 s.df)).setCell ⟨b',7,none⟩ (.int .u64 s.dl)) :=
 (((((((H.setCell (p:=⟨b',0,none⟩) hn _).setCell (p:=⟨b',1,none⟩) hn _).setCell (p:=⟨b',2,none⟩) hn _).setCell (p:=⟨b',3,none⟩) hn _).setCell (p:=⟨b',4,none⟩) hn _).setCell (p:=⟨b',5,none⟩) hn _).setCell (p:=⟨b',6,none⟩) hn _).setCell (p:=⟨b',7,none⟩) hn _
set_option maxHeartbeats 4000000 in
theorem rwith_any (h:Hd) (s:Sc) (w:World):Calls Tryz.prog 100 #[.agg (cH h),.agg (sArr s)] w fun e w'=>e=.returned (.agg (cH (withN h s)))∧Below w.heap.size w w':=by
 obtain⟨W,hW⟩:∃ W,((w.alloc (.cells (cH h) 49)).alloc (.cells (sArr s) 192)).alloc (.cells (cH zeroH) 49)=W:=⟨_,rfl⟩
 have h0:HAt W w.heap.size 49 h:=by
  rw[← hW]
  exact(heap_alloc_old (by simp;omega)).trans ((heap_alloc_old (by simp)).trans (HAt.made w h _))
 have h1:Box W (w.heap.size+1) (sArr s):=by
  have:=box_new (w.alloc (.cells (cH h) 49)) (sArr s) 192
  rw[World.size_alloc] at this
  rw[← hW]
  exact this.below ((Below.refl _ _).alloc (Nat.le_refl _) _)
 have h2:HAt W (w.heap.size+1+1) 49 zeroH:=by
  have:=HAt.made ((w.alloc (.cells (cH h) 49)).alloc (.cells (sArr s) 192)) zeroH 49
  simp only[World.size_alloc] at this
  rw[← hW]
  exact this
 have hbw:Below w.heap.size w W:=by rw[← hW];exact(((Below.refl _ w).alloc (Nat.le_refl _) _).alloc (by simp) _).alloc (by simp;omega) _
 have s0:=h1.cell 0
 have s1:=h1.cell 1
 have s2:=h1.cell 2
 have s3:=h1.cell 3
 have s4:=h1.cell 4
 have s5:=h1.cell 5
 have s6:=h1.cell 6
 have s7:=h1.cell 7
 simp[sArr] at s0 s1 s2 s3 s4 s5 s6 s7
 have c0:=cell_blk h0 0
 have c1:=cell_blk h0 1
 have c2:=cell_blk h0 2
 have c3:=cell_blk h0 3
 have c4:=cell_blk h0 4
 have c5:=cell_blk h0 5
 have c6:=cell_blk h0 6
 have c7:=cell_blk h0 7
 simp[cH] at c0 c1 c2 c3 c4 c5 c6 c7
 have f0:∀ j,W.frozen? ⟨w.heap.size,j,none⟩=false:=fun j=>by unfold HAt at h0;simp[World.frozen?,h0]
 have H0:=Lib.hid h0
 have H2:=Lib.hid h2
 have HBW:=Lib.hid hbw
 clear h0 h1 h2 hbw
 have hz:cH zeroH=#[.int .u64 0,.int .u64 0,.int .u64 0,.int .u64 0,.int .u64 0,.int .u64 0,.int .u64 0,.int .u64 0,.int .u64 0,.int .u64 0,.int .u64 0,.bool false,.int .u8 0,.int .u8 0,.int .u8 0,.int .i64 0,.int .i64 0,.int .i64 0,.int .i64 0,.int .i64 0,.int .i64 0,.int .i64 0,.int .i64 0,.int .i64 0]:=rfl
 rw[hz] at hW
 clear hz
 generalize hc:cH (withN h s)=R
 have HR:=Lib.hid hc
 clear hc
 generalize hk:cH h=Hc at *
 have HK:=Lib.hid hk
 clear hk
 unfold sArr at hW ⊢
 go_enter Tryz.func100,Tryz.ntmps100
 go_upto_region 1 with fail
 try rw[hW]
 clear hW
 go_cut [] (fun wx=>HAt wx w.heap.size 49 (withN h s)∧HAt wx (w.heap.size+1+1) 49 zeroH∧Below w.heap.size w wx)
 case first =>
  go_region
  all_goals
   go_wp2_with fail
   go_meet
   case rel=>exact⟨HAt.later (HAt.secs H0.out s) (Below.drew (Below.refl _ _)),HAt.later (HAt.secs_far H2.out (by omega) s) (Below.drew (Below.refl _ _)),Below.drew (below_secs HBW.out (Nat.le_refl _) s)⟩
 case rest =>
  obtain⟨hA,hZ,hB⟩:=hcut
  generalize wc=W2 at *
  have HA:=Lib.hid hA
  have HZ:=Lib.hid hZ
  have HB:=Lib.hid hB
  clear hA hZ hB s0 s1 s2 s3 s4 s5 s6 s7 c0 c1 c2 c3 c4 c5 c6 c7 f0 H0 H2 HBW
  generalize hx:withN h s=X at *
  go_wp2_with (first|(refine wpList_load_row rfl 49 _ rfl w.heap.size rfl 49 (cH X) (0,0) _ HA.out Tryz.underlying49 rfl rhead_size ?_)|(refine wpList_store_row rfl 49 _ _ rfl (w.heap.size+1+1) (cH X) rfl rfl 49 (cH zeroH) HZ.out rhead_size rfl (cH_one X) ?_)|fail)
  have hp:=put24 W2 (w.heap.size+1+1) _ zeroH X HZ.out
  refine bodyPost_ret (results_cell_row rfl _ _ (w.heap.size+1+1) 49 (cH X) (0,0) _ rfl hp.1 Tryz.underlying49 rfl rhead_size) rfl ⟨by rw[HR.out],hp.2.2.1 _ _ (by omega) HB.out⟩
def pArr (p:Pt):Array Value:=#[.string p.p0,.string p.p1,.string p.p2,.string p.p3]
def Few (p:Pt) (n:Nat):Prop:=p.p0.size≤n∧p.p1.size≤n∧p.p2.size≤n∧p.p3.size≤n
theorem hkeep4 {w:World} {b b':Nat} {o:Obj} (H:w.heap[b]?=some o) (hn:b≠b') (v0 v1 v2 v3:Value):((((w.setCell ⟨b',0,none⟩ v0).setCell ⟨b',1,none⟩ v1).setCell ⟨b',2,none⟩ v2).setCell ⟨b',3,none⟩ v3).heap[b]?=some o:=hother (hother (hother (hother H hn _ _) hn _ _) hn _ _) hn _ _
theorem below4 {w0 w:World} {B b':Nat} (H:Below B w0 w) (hn:B≤b') (v0 v1 v2 v3:Value):Below B w0 ((((w.setCell ⟨b',0,none⟩ v0).setCell ⟨b',1,none⟩ v1).setCell ⟨b',2,none⟩ v2).setCell ⟨b',3,none⟩ v3):=(((H.setCell (p:=⟨b',0,none⟩) hn _).setCell (p:=⟨b',1,none⟩) hn _).setCell (p:=⟨b',2,none⟩) hn _).setCell (p:=⟨b',3,none⟩) hn _
theorem sec_few {p:Pt} (h:Few p 200000000):secOf p=⟨⟨127,p.p0.size,127+p.p0.size,p.p1.size,127+p.p0.size+p.p1.size,p.p2.size,127+p.p0.size+p.p1.size+p.p2.size,p.p3.size⟩,127+p.p0.size+p.p1.size+p.p2.size+p.p3.size,0⟩:=by
 obtain⟨h0,h1,h2,h3⟩:=h
 unfold secOf secsN
 rw[if_neg (by unfold tooBig;omega)]
theorem mayS_few {p:Pt} (h:Few p 200000000):MayS (secOf p).sec:=by
 rw[sec_few h]
 obtain⟨h0,h1,h2,h3⟩:=h
 unfold MayS U64
 simp only
 omega
theorem with_may {h:Hd} {s:Sc} (hm:MayH h) (hs:MayS s):MayH (withN h s):=by
 obtain⟨a0,a1,a2,a3,a4,a5,a6,a7,r⟩:=hm
 obtain⟨b0,b1,b2,b3,b4,b5,b6,b7⟩:=hs
 exact⟨b0,b1,b2,b3,b4,b5,b6,b7,r⟩
set_option maxHeartbeats 4000000 in
theorem rglue_any (h:Hd) (p:Pt) (w:World) (hm:MayH h) (hp:Few p 200000000):Calls Tryz.prog 40 #[.agg (cH h),.agg (pArr p)] w fun e w'=>e=.returned (.tuple #[.string (glueN h p).1,.int .i64 (glueN h p).2])∧Below w.heap.size w w':=by
 have hsf:=sec_few hp
 have hmx:=with_may hm (mayS_few hp)
 have hg:glueN h p=if (encH (withN h (secOf p).sec)).2≠0 then (noBCc,(encH (withN h (secOf p).sec)).2) else (str (encH (withN h (secOf p).sec)).1++p.p0++p.p1++p.p2++p.p3,0):=by
  unfold glueN
  rw[if_neg (by rw[hsf];simp)]
 obtain⟨p0,p1,p2,p3⟩:=p
 obtain⟨l0,l1,l2,l3⟩:=hp
 dsimp only at l0 l1 l2 l3
 obtain⟨W,hW⟩:∃ W,((w.alloc (.cells (cH h) 49)).alloc (.cells #[.string p0,.string p1,.string p2,.string p3] 52)).alloc (.cells #[.int .u64 0,.int .u64 0,.int .u64 0,.int .u64 0] 169)=W:=⟨_,rfl⟩
 have h0:HAt W w.heap.size 49 h:=by
  rw[← hW]
  exact(heap_alloc_old (by simp;omega)).trans ((heap_alloc_old (by simp)).trans (HAt.made w h _))
 have h1:Box W (w.heap.size+1) #[.string p0,.string p1,.string p2,.string p3]:=by
  have:=box_new (w.alloc (.cells (cH h) 49)) #[.string p0,.string p1,.string p2,.string p3] 52
  rw[World.size_alloc] at this
  rw[← hW]
  exact this.below ((Below.refl _ _).alloc (Nat.le_refl _) _)
 have h2:Box W (w.heap.size+1+1) #[.int .u64 0,.int .u64 0,.int .u64 0,.int .u64 0]:=by
  have:=box_new ((w.alloc (.cells (cH h) 49)).alloc (.cells #[.string p0,.string p1,.string p2,.string p3] 52)) #[.int .u64 0,.int .u64 0,.int .u64 0,.int .u64 0] 169
  simp only[World.size_alloc] at this
  rw[← hW]
  exact this
 have hbw:Below w.heap.size w W:=by rw[← hW];exact(((Below.refl _ w).alloc (Nat.le_refl _) _).alloc (by simp) _).alloc (by simp;omega) _
 have s0:=h1.cell 0
 have s1:=h1.cell 1
 have s2:=h1.cell 2
 have s3:=h1.cell 3
 have c0:=h2.cell 0
 have c1:=h2.cell 1
 have c2:=h2.cell 2
 have c3:=h2.cell 3
 have f2:=h2.frz
 simp at s0 s1 s2 s3 c0 c1 c2 c3
 have w0:IntKind.u64.wrap (p0.size:Int)=(p0.size:Int):=by rw[IntKind.wrap_u64];omega
 have w1:IntKind.u64.wrap (p1.size:Int)=(p1.size:Int):=by rw[IntKind.wrap_u64];omega
 have w2:IntKind.u64.wrap (p2.size:Int)=(p2.size:Int):=by rw[IntKind.wrap_u64];omega
 have w3:IntKind.u64.wrap (p3.size:Int)=(p3.size:Int):=by rw[IntKind.wrap_u64];omega
 have H4:Hid (HAt ((((W.setCell ⟨w.heap.size+1+1,0,none⟩ (.int .u64 p0.size)).setCell ⟨w.heap.size+1+1,1,none⟩ (.int .u64 p1.size)).setCell ⟨w.heap.size+1+1,2,none⟩ (.int .u64 p2.size)).setCell ⟨w.heap.size+1+1,3,none⟩ (.int .u64 p3.size)) w.heap.size 49 h):=Lib.hid (hkeep4 h0 (by omega) _ _ _ _)
 have P4:Hid (Box ((((W.setCell ⟨w.heap.size+1+1,0,none⟩ (.int .u64 p0.size)).setCell ⟨w.heap.size+1+1,1,none⟩ (.int .u64 p1.size)).setCell ⟨w.heap.size+1+1,2,none⟩ (.int .u64 p2.size)).setCell ⟨w.heap.size+1+1,3,none⟩ (.int .u64 p3.size)) (w.heap.size+1) #[.string p0,.string p1,.string p2,.string p3]):=by
  obtain⟨T,h1⟩:=h1
  exact Lib.hid ⟨T,hkeep4 h1 (by omega) _ _ _ _⟩
 have B4:Hid (Below w.heap.size w ((((W.setCell ⟨w.heap.size+1+1,0,none⟩ (.int .u64 p0.size)).setCell ⟨w.heap.size+1+1,1,none⟩ (.int .u64 p1.size)).setCell ⟨w.heap.size+1+1,2,none⟩ (.int .u64 p2.size)).setCell ⟨w.heap.size+1+1,3,none⟩ (.int .u64 p3.size))):=Lib.hid (below4 hbw (by omega) _ _ _ _)
 have HSC:=Lib.hid (fun X=>rsections_any p0.size p1.size p2.size p3.size X (by omega) (by omega) (by omega) (by omega))
 have hso:secsN p0.size p1.size p2.size p3.size=secOf ⟨p0,p1,p2,p3⟩:=rfl
 rw[hso] at HSC
 have hse:(secOf ⟨p0,p1,p2,p3⟩).err=0:=by rw[hsf]
 unfold SecEnd at HSC
 rw[hse] at HSC
 generalize secOf ⟨p0,p1,p2,p3⟩=S at *
 have HEN:=Lib.hid (fun X=>rencode_any (withN h S.sec) X hmx)
 have HWI:=Lib.hid (fun X=>rwith_any h S.sec X)
 rw[hg]
 generalize withN h S.sec=hx at *
 obtain⟨R,hR⟩:∃ R,(if (encH hx).2≠0 then (noBCc,(encH hx).2) else (str (encH hx).1++p0++p1++p2++p3,0))=R:=⟨_,rfl⟩
 rw[hR]
 have HR:=Lib.hid hR
 clear hR h0 h1 h2 hbw hg hsf hso hse
 generalize hk:cH h=Hc at *
 have HK:=Lib.hid hk
 clear hk
 unfold pArr
 go_enter Tryz.func40,Tryz.ntmps40
 go_wp2_with fail
 try rw[hW]
 clear hW
 refine wp_loop_rounds 5 ?_
 rw[rounds_succ]
 go_wp2_with fail
 rw[rounds_succ]
 go_wp2_with fail
 rw[rounds_succ]
 go_wp2_with fail
 rw[rounds_succ]
 go_wp2_with fail
 rw[rounds_succ]
 go_wp2_with fail
 clear s0 s1 s2 s3 c0 c1 c2 c3 f2 w0 w1 w2 w3
 generalize hW4:(((W.setCell ⟨w.heap.size+1+1,0,none⟩ (.int .u64 p0.size)).setCell ⟨w.heap.size+1+1,1,none⟩ (.int .u64 p1.size)).setCell ⟨w.heap.size+1+1,2,none⟩ (.int .u64 p2.size)).setCell ⟨w.heap.size+1+1,3,none⟩ (.int .u64 p3.size)=W4 at *
 refine(HSC.out _).mono ?_
 rintro e w1 ⟨rfl,hb1⟩
 unfold sArr
 have hba:Below w1.heap.size w1 (w1.alloc (.cells #[.int .u64 S.sec.rf,.int .u64 S.sec.rl,.int .u64 S.sec.mf,.int .u64 S.sec.ml,.int .u64 S.sec.lf,.int .u64 S.sec.ll,.int .u64 S.sec.df,.int .u64 S.sec.dl] 192)):=(Below.refl _ _).alloc (Nat.le_refl _) _
 have hb2:=hb1.trans (hba.mono hb1.size)
 have HA2:=H4.out.later hb2
 have P2:=Lib.hid (P4.out.below hb2)
 have B2:=Lib.hid (B4.out.trans (hb2.mono B4.out.size))
 unfold HAt at HA2
 rw[HK.out] at HA2
 have hsz:(Tryz.prog.info? 49).map (·.size)=some Hc.size:=by rw[← HK.out];exact rhead_size
 have HA2:=Lib.hid HA2
 unfold sArr at HWI
 clear hb1 hba hb2 hW4 H4 P4 B4
 go_wp2_with (first|(refine wpList_load_row rfl 49 _ rfl w.heap.size rfl 49 Hc (0,0) _ HA2.out Tryz.underlying49 rfl hsz ?_)|fail)
 refine(HWI.out _).mono ?_
 rintro e w3 ⟨rfl,hb3⟩
 have P3:=Lib.hid (P2.out.below hb3)
 have B3:=Lib.hid (B2.out.trans (hb3.mono B2.out.size))
 clear hb3 P2 B2 HA2
 go_wp2_with fail
 refine(HEN.out _).mono ?_
 rintro e w5 ⟨rfl,hb5⟩
 have P5:=P3.out.below hb5
 have B5:=Lib.hid (B3.out.trans (hb5.mono B3.out.size))
 have q0:=P5.cell 0
 have q1:=P5.cell 1
 have q2:=P5.cell 2
 have q3:=P5.cell 3
 simp at q0 q1 q2 q3
 have hsl:(str (encH hx).1).size≤200:=by
  rw[str_size]
  unfold encH
  split
  ·rename_i hc
   rw[bytsH_len hx hmx hc]
   omega
  ·simp
 clear hb5 P3 B3 P5
 by_cases hz:(encH hx).2=0
 ·rw[hz]
  have HR2:=HR.out
  rw[if_neg (by simpa using hz)] at HR2
  have HR2:=Lib.hid HR2
  clear hz
  generalize str (encH hx).1=st at *
  have g1:(st++p0).size≤200000500:=by rw[ByteArray.size_append];omega
  have g2:(st++p0++p1).size≤400000800:=by rw[ByteArray.size_append,ByteArray.size_append];omega
  have g3:(st++p0++p1++p2).size≤600001100:=by rw[ByteArray.size_append,ByteArray.size_append,ByteArray.size_append];omega
  go_wp2_with fail
  refine bodyPost_ret (results_tmp2 rfl _ _ _) rfl ⟨by rw[← HR2.out];rfl,B5.out⟩
 ·have HR2:=HR.out
  rw[if_pos hz] at HR2
  have HR2:=Lib.hid HR2
  have hzn:((encH hx).2 != 0)=true:=by simpa using hz
  generalize (encH hx).2=er at *
  clear hz
  go_wp2_with fail
  refine bodyPost_ret (results_tmp2 rfl _ _ _) rfl ⟨by rw[← HR2.out];rfl,B5.out⟩
theorem size_strP:Tryz.t9.size=1:=by kernel_rfl
theorem size_u64P:Tryz.t40.size=1:=by kernel_rfl
theorem idx_p (c0 c1 c2 c3:Value) (W:World) :
  Sem.run Tryz.prog (Instr.index 52 (.agg #[c0,c1,c2,c3]) (.int .i64 0)) W=.ok c0 W ∧
  Sem.run Tryz.prog (Instr.index 52 (.agg #[c0,c1,c2,c3]) (.int .i64 1)) W=.ok c1 W ∧
  Sem.run Tryz.prog (Instr.index 52 (.agg #[c0,c1,c2,c3]) (.int .i64 2)) W=.ok c2 W ∧
  Sem.run Tryz.prog (Instr.index 52 (.agg #[c0,c1,c2,c3]) (.int .i64 3)) W=.ok c3 W:=by
 refine⟨?_,?_,?_,?_⟩ <;> simp[Instr.index,run_underlying Tryz.underlying52,asIntOf,part,sizeOf,size_strP,go_sem]
theorem idx_n (c0 c1 c2 c3:Value) (W:World) :
  Sem.run Tryz.prog (Instr.index 169 (.agg #[c0,c1,c2,c3]) (.int .i64 0)) W=.ok c0 W ∧
  Sem.run Tryz.prog (Instr.index 169 (.agg #[c0,c1,c2,c3]) (.int .i64 1)) W=.ok c1 W ∧
  Sem.run Tryz.prog (Instr.index 169 (.agg #[c0,c1,c2,c3]) (.int .i64 2)) W=.ok c2 W ∧
  Sem.run Tryz.prog (Instr.index 169 (.agg #[c0,c1,c2,c3]) (.int .i64 3)) W=.ok c3 W:=by
 refine⟨?_,?_,?_,?_⟩ <;> simp[Instr.index,run_underlying Tryz.underlying169,asIntOf,part,sizeOf,size_u64P,go_sem]
theorem lens15_any (p:Pt) (w:World) (hp:Few p 200000000):Calls Tryz.prog 82 #[.agg (pArr p)] w fun e w'=>e=.returned (.agg #[.int .u64 p.p0.size,.int .u64 p.p1.size,.int .u64 p.p2.size,.int .u64 p.p3.size])∧Below w.heap.size w w':=by
 obtain⟨p0,p1,p2,p3⟩:=p
 obtain⟨l0,l1,l2,l3⟩:=hp
 dsimp only at l0 l1 l2 l3
 have w0:IntKind.u64.wrap (p0.size:Int)=(p0.size:Int):=by rw[IntKind.wrap_u64];omega
 have w1:IntKind.u64.wrap (p1.size:Int)=(p1.size:Int):=by rw[IntKind.wrap_u64];omega
 have w2:IntKind.u64.wrap (p2.size:Int)=(p2.size:Int):=by rw[IntKind.wrap_u64];omega
 have w3:IntKind.u64.wrap (p3.size:Int)=(p3.size:Int):=by rw[IntKind.wrap_u64];omega
 have i0:=fun W=>(idx_p (.string p0) (.string p1) (.string p2) (.string p3) W).1
 have i1:=fun W=>(idx_p (.string p0) (.string p1) (.string p2) (.string p3) W).2.1
 have i2:=fun W=>(idx_p (.string p0) (.string p1) (.string p2) (.string p3) W).2.2.1
 have i3:=fun W=>(idx_p (.string p0) (.string p1) (.string p2) (.string p3) W).2.2.2
 clear l0 l1 l2 l3
 unfold pArr
 go_enter Tryz.func82,Tryz.ntmps82
 go_wp2_with fail
 refine wp_loop_rounds 5 ?_
 rw[rounds_succ]
 go_wp2_with fail
 rw[rounds_succ]
 go_wp2_with fail
 rw[rounds_succ]
 go_wp2_with fail
 rw[rounds_succ]
 go_wp2_with fail
 rw[rounds_succ]
 go_wp2_with fail
 refine bodyPost_ret (v:=.agg #[.int .u64 p0.size,.int .u64 p1.size,.int .u64 p2.size,.int .u64 p3.size]) (by simp[results,Tryz.results82,go_sem]) rfl ⟨rfl,by go_grown⟩
theorem end15_exact (f l s:Int) (w:World) (hs:IntKind.u64.wrap (f+l)=s):Calls Tryz.prog 24 #[.agg #[.int .u64 f,.int .u64 l]] w fun e w'=>e=.returned (.int .u64 s)∧w'=w.alloc (.cells #[.int .u64 f,.int .u64 l] 42):=by
 subst hs
 go_enter Tryz.func24,Tryz.ntmps24
 go_wp2_with fail
 go_ret
 exact⟨rfl,rfl⟩
set_option maxHeartbeats 4000000 in
theorem sec15_bad0 (a b c d:Int) (w:World)  (hx:1099511627776<127+a) :
  Calls Tryz.prog 81 #[.agg #[.int .u64 a,.int .u64 b,.int .u64 c,.int .u64 d]] w (SecEnd ⟨zeroSc,0,8⟩ w):=by
 unfold SecEnd sArr zeroSc
 have g0:(1099511627649:Int)<a:=by omega
 clear  hx
 have i0:=fun W=>(idx_n (.int .u64 a) (.int .u64 b) (.int .u64 c) (.int .u64 d) W).1
 have i1:=fun W=>(idx_n (.int .u64 a) (.int .u64 b) (.int .u64 c) (.int .u64 d) W).2.1
 have i2:=fun W=>(idx_n (.int .u64 a) (.int .u64 b) (.int .u64 c) (.int .u64 d) W).2.2.1
 have i3:=fun W=>(idx_n (.int .u64 a) (.int .u64 b) (.int .u64 c) (.int .u64 d) W).2.2.2
 go_enter Tryz.func81,Tryz.ntmps81
 go_wp2_with fail
 refine wp_loop_rounds 5 ?_
 rw[rounds_succ]
 go_wp2_with fail
 refine bodyPost_ret (v:=.tuple #[.agg #[.int .u64 0,.int .u64 0,.int .u64 0,.int .u64 0,.int .u64 0,.int .u64 0,.int .u64 0,.int .u64 0],.int .u64 0,.int .i64 8]) (by simp[results,Tryz.results81,go_sem]) rfl ⟨rfl,by go_grown⟩
set_option maxHeartbeats 4000000 in
theorem sec15_bad1 (a b c d:Int) (w:World) (ha:0≤a) (hs:127+a≤1099511627776) (hx:1099511627776<127+a+b) :
  Calls Tryz.prog 81 #[.agg #[.int .u64 a,.int .u64 b,.int .u64 c,.int .u64 d]] w (SecEnd ⟨zeroSc,0,8⟩ w):=by
 unfold SecEnd sArr zeroSc
 have g0:¬ (1099511627649:Int)<a:=by omega
 have v1:IntKind.u64.wrap (1099511627776 - (127+a))=1099511627776 - (127+a):=by rw[IntKind.wrap_u64];omega
 have g1:(1099511627776 - (127+a):Int)<b:=by omega
 have w1:IntKind.u64.wrap (127+a)=127+a:=by rw[IntKind.wrap_u64];omega
 have HE0:=Lib.hid (fun W=>end15_exact (127) a (127+a) W w1)
 clear ha hs hx
 have i0:=fun W=>(idx_n (.int .u64 a) (.int .u64 b) (.int .u64 c) (.int .u64 d) W).1
 have i1:=fun W=>(idx_n (.int .u64 a) (.int .u64 b) (.int .u64 c) (.int .u64 d) W).2.1
 have i2:=fun W=>(idx_n (.int .u64 a) (.int .u64 b) (.int .u64 c) (.int .u64 d) W).2.2.1
 have i3:=fun W=>(idx_n (.int .u64 a) (.int .u64 b) (.int .u64 c) (.int .u64 d) W).2.2.2
 go_enter Tryz.func81,Tryz.ntmps81
 go_wp2_with fail
 refine wp_loop_rounds 5 ?_
 rw[rounds_succ]
 go_wp2_with fail
 refine(HE0.out _).mono ?_
 rintro e w' ⟨rfl,rfl⟩
 go_wp2_with fail
 rw[rounds_succ]
 go_wp2_with fail
 refine bodyPost_ret (v:=.tuple #[.agg #[.int .u64 0,.int .u64 0,.int .u64 0,.int .u64 0,.int .u64 0,.int .u64 0,.int .u64 0,.int .u64 0],.int .u64 0,.int .i64 8]) (by simp[results,Tryz.results81,go_sem]) rfl ⟨rfl,by go_grown⟩
set_option maxHeartbeats 4000000 in
theorem sec15_bad2 (a b c d:Int) (w:World) (ha:0≤a) (hb:0≤b) (hs:127+a+b≤1099511627776) (hx:1099511627776<127+a+b+c) :
  Calls Tryz.prog 81 #[.agg #[.int .u64 a,.int .u64 b,.int .u64 c,.int .u64 d]] w (SecEnd ⟨zeroSc,0,8⟩ w):=by
 unfold SecEnd sArr zeroSc
 have g0:¬ (1099511627649:Int)<a:=by omega
 have v1:IntKind.u64.wrap (1099511627776 - (127+a))=1099511627776 - (127+a):=by rw[IntKind.wrap_u64];omega
 have g1:¬ (1099511627776 - (127+a):Int)<b:=by omega
 have v2:IntKind.u64.wrap (1099511627776 - (127+a+b))=1099511627776 - (127+a+b):=by rw[IntKind.wrap_u64];omega
 have g2:(1099511627776 - (127+a+b):Int)<c:=by omega
 have w1:IntKind.u64.wrap (127+a)=127+a:=by rw[IntKind.wrap_u64];omega
 have w2:IntKind.u64.wrap (127+a+b)=127+a+b:=by rw[IntKind.wrap_u64];omega
 have HE0:=Lib.hid (fun W=>end15_exact (127) a (127+a) W w1)
 have HE1:=Lib.hid (fun W=>end15_exact (127+a) b (127+a+b) W w2)
 clear ha hb hs hx
 have i0:=fun W=>(idx_n (.int .u64 a) (.int .u64 b) (.int .u64 c) (.int .u64 d) W).1
 have i1:=fun W=>(idx_n (.int .u64 a) (.int .u64 b) (.int .u64 c) (.int .u64 d) W).2.1
 have i2:=fun W=>(idx_n (.int .u64 a) (.int .u64 b) (.int .u64 c) (.int .u64 d) W).2.2.1
 have i3:=fun W=>(idx_n (.int .u64 a) (.int .u64 b) (.int .u64 c) (.int .u64 d) W).2.2.2
 go_enter Tryz.func81,Tryz.ntmps81
 go_wp2_with fail
 refine wp_loop_rounds 5 ?_
 rw[rounds_succ]
 go_wp2_with fail
 refine(HE0.out _).mono ?_
 rintro e w' ⟨rfl,rfl⟩
 go_wp2_with fail
 rw[rounds_succ]
 go_wp2_with fail
 refine(HE1.out _).mono ?_
 rintro e w' ⟨rfl,rfl⟩
 go_wp2_with fail
 rw[rounds_succ]
 go_wp2_with fail
 refine bodyPost_ret (v:=.tuple #[.agg #[.int .u64 0,.int .u64 0,.int .u64 0,.int .u64 0,.int .u64 0,.int .u64 0,.int .u64 0,.int .u64 0],.int .u64 0,.int .i64 8]) (by simp[results,Tryz.results81,go_sem]) rfl ⟨rfl,by go_grown⟩
set_option maxHeartbeats 4000000 in
theorem sec15_bad3 (a b c d:Int) (w:World) (ha:0≤a) (hb:0≤b) (hc:0≤c) (hs:127+a+b+c≤1099511627776) (hx:1099511627776<127+a+b+c+d) :
  Calls Tryz.prog 81 #[.agg #[.int .u64 a,.int .u64 b,.int .u64 c,.int .u64 d]] w (SecEnd ⟨zeroSc,0,8⟩ w):=by
 unfold SecEnd sArr zeroSc
 have g0:¬ (1099511627649:Int)<a:=by omega
 have v1:IntKind.u64.wrap (1099511627776 - (127+a))=1099511627776 - (127+a):=by rw[IntKind.wrap_u64];omega
 have g1:¬ (1099511627776 - (127+a):Int)<b:=by omega
 have v2:IntKind.u64.wrap (1099511627776 - (127+a+b))=1099511627776 - (127+a+b):=by rw[IntKind.wrap_u64];omega
 have g2:¬ (1099511627776 - (127+a+b):Int)<c:=by omega
 have v3:IntKind.u64.wrap (1099511627776 - (127+a+b+c))=1099511627776 - (127+a+b+c):=by rw[IntKind.wrap_u64];omega
 have g3:(1099511627776 - (127+a+b+c):Int)<d:=by omega
 have w1:IntKind.u64.wrap (127+a)=127+a:=by rw[IntKind.wrap_u64];omega
 have w2:IntKind.u64.wrap (127+a+b)=127+a+b:=by rw[IntKind.wrap_u64];omega
 have w3:IntKind.u64.wrap (127+a+b+c)=127+a+b+c:=by rw[IntKind.wrap_u64];omega
 have HE0:=Lib.hid (fun W=>end15_exact (127) a (127+a) W w1)
 have HE1:=Lib.hid (fun W=>end15_exact (127+a) b (127+a+b) W w2)
 have HE2:=Lib.hid (fun W=>end15_exact (127+a+b) c (127+a+b+c) W w3)
 clear ha hb hc hs hx
 have i0:=fun W=>(idx_n (.int .u64 a) (.int .u64 b) (.int .u64 c) (.int .u64 d) W).1
 have i1:=fun W=>(idx_n (.int .u64 a) (.int .u64 b) (.int .u64 c) (.int .u64 d) W).2.1
 have i2:=fun W=>(idx_n (.int .u64 a) (.int .u64 b) (.int .u64 c) (.int .u64 d) W).2.2.1
 have i3:=fun W=>(idx_n (.int .u64 a) (.int .u64 b) (.int .u64 c) (.int .u64 d) W).2.2.2
 go_enter Tryz.func81,Tryz.ntmps81
 go_wp2_with fail
 refine wp_loop_rounds 5 ?_
 rw[rounds_succ]
 go_wp2_with fail
 refine(HE0.out _).mono ?_
 rintro e w' ⟨rfl,rfl⟩
 go_wp2_with fail
 rw[rounds_succ]
 go_wp2_with fail
 refine(HE1.out _).mono ?_
 rintro e w' ⟨rfl,rfl⟩
 go_wp2_with fail
 rw[rounds_succ]
 go_wp2_with fail
 refine(HE2.out _).mono ?_
 rintro e w' ⟨rfl,rfl⟩
 go_wp2_with fail
 rw[rounds_succ]
 go_wp2_with fail
 refine bodyPost_ret (v:=.tuple #[.agg #[.int .u64 0,.int .u64 0,.int .u64 0,.int .u64 0,.int .u64 0,.int .u64 0,.int .u64 0,.int .u64 0],.int .u64 0,.int .i64 8]) (by simp[results,Tryz.results81,go_sem]) rfl ⟨rfl,by go_grown⟩
set_option maxHeartbeats 4000000 in
theorem sec15_ok (a b c d:Int) (w:World) (ha:0≤a) (hb:0≤b) (hc:0≤c) (hd:0≤d) (hs:127+a+b+c+d≤1099511627776) :
  Calls Tryz.prog 81 #[.agg #[.int .u64 a,.int .u64 b,.int .u64 c,.int .u64 d]] w (SecEnd ⟨⟨127,a,127+a,b,127+a+b,c,127+a+b+c,d⟩,127+a+b+c+d,0⟩ w):=by
 unfold SecEnd sArr
 have g0:¬ (1099511627649:Int)<a:=by omega
 have v1:IntKind.u64.wrap (1099511627776 - (127+a))=1099511627776 - (127+a):=by rw[IntKind.wrap_u64];omega
 have g1:¬ (1099511627776 - (127+a):Int)<b:=by omega
 have v2:IntKind.u64.wrap (1099511627776 - (127+a+b))=1099511627776 - (127+a+b):=by rw[IntKind.wrap_u64];omega
 have g2:¬ (1099511627776 - (127+a+b):Int)<c:=by omega
 have v3:IntKind.u64.wrap (1099511627776 - (127+a+b+c))=1099511627776 - (127+a+b+c):=by rw[IntKind.wrap_u64];omega
 have g3:¬ (1099511627776 - (127+a+b+c):Int)<d:=by omega
 have w1:IntKind.u64.wrap (127+a)=127+a:=by rw[IntKind.wrap_u64];omega
 have w2:IntKind.u64.wrap (127+a+b)=127+a+b:=by rw[IntKind.wrap_u64];omega
 have w3:IntKind.u64.wrap (127+a+b+c)=127+a+b+c:=by rw[IntKind.wrap_u64];omega
 have w4:IntKind.u64.wrap (127+a+b+c+d)=127+a+b+c+d:=by rw[IntKind.wrap_u64];omega
 have HE0:=Lib.hid (fun W=>end15_exact (127) a (127+a) W w1)
 have HE1:=Lib.hid (fun W=>end15_exact (127+a) b (127+a+b) W w2)
 have HE2:=Lib.hid (fun W=>end15_exact (127+a+b) c (127+a+b+c) W w3)
 have HE3:=Lib.hid (fun W=>end15_exact (127+a+b+c) d (127+a+b+c+d) W w4)
 clear ha hb hc hd hs
 have i0:=fun W=>(idx_n (.int .u64 a) (.int .u64 b) (.int .u64 c) (.int .u64 d) W).1
 have i1:=fun W=>(idx_n (.int .u64 a) (.int .u64 b) (.int .u64 c) (.int .u64 d) W).2.1
 have i2:=fun W=>(idx_n (.int .u64 a) (.int .u64 b) (.int .u64 c) (.int .u64 d) W).2.2.1
 have i3:=fun W=>(idx_n (.int .u64 a) (.int .u64 b) (.int .u64 c) (.int .u64 d) W).2.2.2
 go_enter Tryz.func81,Tryz.ntmps81
 go_wp2_with fail
 refine wp_loop_rounds 5 ?_
 rw[rounds_succ]
 go_wp2_with fail
 refine(HE0.out _).mono ?_
 rintro e w' ⟨rfl,rfl⟩
 go_wp2_with fail
 rw[rounds_succ]
 go_wp2_with fail
 refine(HE1.out _).mono ?_
 rintro e w' ⟨rfl,rfl⟩
 go_wp2_with fail
 rw[rounds_succ]
 go_wp2_with fail
 refine(HE2.out _).mono ?_
 rintro e w' ⟨rfl,rfl⟩
 go_wp2_with fail
 rw[rounds_succ]
 go_wp2_with fail
 refine(HE3.out _).mono ?_
 rintro e w' ⟨rfl,rfl⟩
 go_wp2_with fail
 rw[rounds_succ]
 go_wp2_with fail
 refine bodyPost_ret (v:=.tuple #[.agg #[.int .u64 127,.int .u64 a,.int .u64 (127+a),.int .u64 b,.int .u64 (127+a+b),.int .u64 c,.int .u64 (127+a+b+c),.int .u64 d],.int .u64 (127+a+b+c+d),.int .i64 0]) (by simp[results,Tryz.results81,go_sem]) rfl ⟨rfl,by go_grown⟩
theorem sections15_any (a b c d:Int) (w:World) (ha:U64 a) (hb:U64 b) (hc:U64 c) (hd:U64 d):Calls Tryz.prog 81 #[.agg #[.int .u64 a,.int .u64 b,.int .u64 c,.int .u64 d]] w (SecEnd (secsN a b c d) w):=by
 unfold U64 at ha hb hc hd
 unfold secsN
 by_cases h:tooBig a b c d
 ·rw[if_pos h]
  unfold tooBig at h
  by_cases h1:1099511627776<127+a
  ·exact sec15_bad0 a b c d w h1
  by_cases h2:1099511627776<127+a+b
  ·exact sec15_bad1 a b c d w (by omega) (by omega) h2
  by_cases h3:1099511627776<127+a+b+c
  ·exact sec15_bad2 a b c d w (by omega) (by omega) (by omega) h3
  exact sec15_bad3 a b c d w (by omega) (by omega) (by omega) (by omega) (by omega)
 ·rw[if_neg h]
  unfold tooBig at h
  exact sec15_ok a b c d w (by omega) (by omega) (by omega) (by omega) (by omega)
set_option maxHeartbeats 4000000 in
theorem with15_any (h:Hd) (s:Sc) (w:World):Calls Tryz.prog 84 #[.agg (cH h),.agg (sArr s)] w fun e w'=>e=.returned (.agg (cH (withN h s)))∧Below w.heap.size w w':=by
 obtain⟨W,hW⟩:∃ W,((w.alloc (.cells (cH h) 44)).alloc (.cells (sArr s) 109)).alloc (.cells (cH zeroH) 44)=W:=⟨_,rfl⟩
 have h0:HAt W w.heap.size 44 h:=by
  rw[← hW]
  exact(heap_alloc_old (by simp;omega)).trans ((heap_alloc_old (by simp)).trans (HAt.made w h _))
 have h1:Box W (w.heap.size+1) (sArr s):=by
  have:=box_new (w.alloc (.cells (cH h) 44)) (sArr s) 109
  rw[World.size_alloc] at this
  rw[← hW]
  exact this.below ((Below.refl _ _).alloc (Nat.le_refl _) _)
 have h2:HAt W (w.heap.size+1+1) 44 zeroH:=by
  have:=HAt.made ((w.alloc (.cells (cH h) 44)).alloc (.cells (sArr s) 109)) zeroH 44
  simp only[World.size_alloc] at this
  rw[← hW]
  exact this
 have hbw:Below w.heap.size w W:=by rw[← hW];exact(((Below.refl _ w).alloc (Nat.le_refl _) _).alloc (by simp) _).alloc (by simp;omega) _
 have s0:=h1.cell 0
 have s1:=h1.cell 1
 have s2:=h1.cell 2
 have s3:=h1.cell 3
 have s4:=h1.cell 4
 have s5:=h1.cell 5
 have s6:=h1.cell 6
 have s7:=h1.cell 7
 simp[sArr] at s0 s1 s2 s3 s4 s5 s6 s7
 have c0:=cell_blk h0 0
 have c1:=cell_blk h0 1
 have c2:=cell_blk h0 2
 have c3:=cell_blk h0 3
 have c4:=cell_blk h0 4
 have c5:=cell_blk h0 5
 have c6:=cell_blk h0 6
 have c7:=cell_blk h0 7
 simp[cH] at c0 c1 c2 c3 c4 c5 c6 c7
 have f0:∀ j,W.frozen? ⟨w.heap.size,j,none⟩=false:=fun j=>by unfold HAt at h0;simp[World.frozen?,h0]
 have H0:=Lib.hid h0
 have H2:=Lib.hid h2
 have HBW:=Lib.hid hbw
 clear h0 h1 h2 hbw
 have hz:cH zeroH=#[.int .u64 0,.int .u64 0,.int .u64 0,.int .u64 0,.int .u64 0,.int .u64 0,.int .u64 0,.int .u64 0,.int .u64 0,.int .u64 0,.int .u64 0,.bool false,.int .u8 0,.int .u8 0,.int .u8 0,.int .i64 0,.int .i64 0,.int .i64 0,.int .i64 0,.int .i64 0,.int .i64 0,.int .i64 0,.int .i64 0,.int .i64 0]:=rfl
 rw[hz] at hW
 clear hz
 generalize hc:cH (withN h s)=R
 have HR:=Lib.hid hc
 clear hc
 generalize hk:cH h=Hc at *
 have HK:=Lib.hid hk
 clear hk
 unfold sArr at hW ⊢
 go_enter Tryz.func84,Tryz.ntmps84
 go_upto_region 1 with fail
 try rw[hW]
 clear hW
 go_cut [] (fun wx=>HAt wx w.heap.size 44 (withN h s)∧HAt wx (w.heap.size+1+1) 44 zeroH∧Below w.heap.size w wx)
 case first =>
  go_region
  all_goals
   go_wp2_with fail
   go_meet
   case rel=>exact⟨HAt.later (HAt.secs H0.out s) (Below.drew (Below.refl _ _)),HAt.later (HAt.secs_far H2.out (by omega) s) (Below.drew (Below.refl _ _)),Below.drew (below_secs HBW.out (Nat.le_refl _) s)⟩
 case rest =>
  obtain⟨hA,hZ,hB⟩:=hcut
  generalize wc=W2 at *
  have HA:=Lib.hid hA
  have HZ:=Lib.hid hZ
  have HB:=Lib.hid hB
  clear hA hZ hB s0 s1 s2 s3 s4 s5 s6 s7 c0 c1 c2 c3 c4 c5 c6 c7 f0 H0 H2 HBW
  generalize hx:withN h s=X at *
  go_wp2_with (first|(refine wpList_load_row rfl 44 _ rfl w.heap.size rfl 44 (cH X) (0,0) _ HA.out Tryz.underlying44 rfl head_size ?_)|(refine wpList_store_row rfl 44 _ _ rfl (w.heap.size+1+1) (cH X) rfl rfl 44 (cH zeroH) HZ.out head_size rfl (cH_one X) ?_)|fail)
  have hp:=put24 W2 (w.heap.size+1+1) _ zeroH X HZ.out
  refine bodyPost_ret (results_cell_row rfl _ _ (w.heap.size+1+1) 44 (cH X) (0,0) _ rfl hp.1 Tryz.underlying44 rfl head_size) rfl ⟨by rw[HR.out],hp.2.2.1 _ _ (by omega) HB.out⟩
theorem len_byt (s:ByteArray):s.data.toList.length=s.size:=rfl
theorem Box.later {w w':World} {B b:Nat} {arr:Array Value} (h:Box w b arr) (hb:Below B w w') (hB:b<B):Box w' b arr:=by
 obtain⟨T,h⟩:=h
 exact⟨T,(hb.block b hB).trans h⟩
theorem cat5 (a b c d f:ByteArray):(⟨(a.data.toList++b.data.toList++c.data.toList++d.data.toList++f.data.toList).toArray⟩:ByteArray)=a++b++c++d++f:=by
 apply ByteArray.ext
 simp
set_option maxHeartbeats 4000000 in
theorem glue15_any (h:Hd) (p:Pt) (w:World) (hm:MayH h) (hp:Few p 200000000):Calls Tryz.prog 35 #[.agg (cH h),.agg (pArr p)] w fun e w'=>e=.returned (.tuple #[.string (glueN h p).1,.int .i64 (glueN h p).2])∧Below w.heap.size w w':=by
 have hsf:=sec_few hp
 have hmx:=with_may hm (mayS_few hp)
 have hg:glueN h p=if (encH (withN h (secOf p).sec)).2≠0 then (noBCc,(encH (withN h (secOf p).sec)).2) else (str (encH (withN h (secOf p).sec)).1++p.p0++p.p1++p.p2++p.p3,0):=by
  unfold glueN
  rw[if_neg (by rw[hsf];simp)]
 have HLN:=Lib.hid (fun X=>lens15_any p X hp)
 obtain⟨p0,p1,p2,p3⟩:=p
 obtain⟨l0,l1,l2,l3⟩:=hp
 dsimp only at l0 l1 l2 l3 HLN
 obtain⟨W,hW⟩:∃ W,(w.alloc (.cells (cH h) 44)).alloc (.cells #[.string p0,.string p1,.string p2,.string p3] 52)=W:=⟨_,rfl⟩
 have h0:HAt W w.heap.size 44 h:=by
  rw[← hW]
  exact(heap_alloc_old (by simp)).trans (HAt.made w h _)
 have h1:Box W (w.heap.size+1) #[.string p0,.string p1,.string p2,.string p3]:=by
  have:=box_new (w.alloc (.cells (cH h) 44)) #[.string p0,.string p1,.string p2,.string p3] 52
  rw[World.size_alloc] at this
  rw[← hW]
  exact this
 have hbw:Below w.heap.size w W:=by rw[← hW];exact((Below.refl _ w).alloc (Nat.le_refl _) _).alloc (by simp) _
 have s0:=h1.cell 0
 have s1:=h1.cell 1
 have s2:=h1.cell 2
 have s3:=h1.cell 3
 simp at s0 s1 s2 s3
 have HSC:=Lib.hid (fun X=>sections15_any p0.size p1.size p2.size p3.size X (by unfold U64;omega) (by unfold U64;omega) (by unfold U64;omega) (by unfold U64;omega))
 have hso:secsN p0.size p1.size p2.size p3.size=secOf ⟨p0,p1,p2,p3⟩:=rfl
 rw[hso] at HSC
 have hse:(secOf ⟨p0,p1,p2,p3⟩).err=0:=by rw[hsf]
 obtain⟨n,hn,hn2⟩:∃ n:Nat,(secOf ⟨p0,p1,p2,p3⟩).all=n∧n≤1000000000:=⟨127+p0.size+p1.size+p2.size+p3.size,by rw[hsf];simp,by omega⟩
 have hwn:IntKind.i64.wrap (n:Int)=(n:Int):=by rw[IntKind.wrap_i64];omega
 unfold SecEnd at HSC
 rw[hse,hn] at HSC
 generalize secOf ⟨p0,p1,p2,p3⟩=S at *
 have HEN:=Lib.hid (fun X=>encode_any (withN h S.sec) X hmx)
 have HWI:=Lib.hid (fun X=>with15_any h S.sec X)
 rw[hg]
 generalize withN h S.sec=hx at *
 obtain⟨R,hR⟩:∃ R,(if (encH hx).2≠0 then (noBCc,(encH hx).2) else (str (encH hx).1++p0++p1++p2++p3,0))=R:=⟨_,rfl⟩
 rw[hR]
 have HR:=Lib.hid hR
 have H0:=Lib.hid h0
 have P1:=Lib.hid h1
 have B1:=Lib.hid hbw
 clear hR h0 h1 hbw hg hsf hso hse hn
 generalize hk:cH h=Hc at *
 have HK:=Lib.hid hk
 clear hk
 unfold pArr at HLN ⊢
 have i0:=fun W=>(idx_p (.string p0) (.string p1) (.string p2) (.string p3) W).1
 have i1:=fun W=>(idx_p (.string p0) (.string p1) (.string p2) (.string p3) W).2.1
 have i2:=fun W=>(idx_p (.string p0) (.string p1) (.string p2) (.string p3) W).2.2.1
 have i3:=fun W=>(idx_p (.string p0) (.string p1) (.string p2) (.string p3) W).2.2.2
 go_enter Tryz.func35,Tryz.ntmps35
 go_wp2_with fail
 try rw[hW]
 clear hW
 refine(HLN.out _).mono ?_
 rintro e w1 ⟨rfl,hb1⟩
 have H1:=Lib.hid (H0.out.later hb1)
 have P2:=Lib.hid (P1.out.below hb1)
 have B2:=Lib.hid (B1.out.trans (hb1.mono B1.out.size))
 clear hb1 s0 s1 s2 s3 H0 P1 B1
 go_wp2_with fail
 refine(HSC.out _).mono ?_
 rintro e w2 ⟨rfl,hb2⟩
 unfold sArr
 have hba:Below w2.heap.size w2 (w2.alloc (.cells #[.int .u64 S.sec.rf,.int .u64 S.sec.rl,.int .u64 S.sec.mf,.int .u64 S.sec.ml,.int .u64 S.sec.lf,.int .u64 S.sec.ll,.int .u64 S.sec.df,.int .u64 S.sec.dl] 109)):=(Below.refl _ _).alloc (Nat.le_refl _) _
 have hb3:=hb2.trans (hba.mono hb2.size)
 have HA2:=H1.out.later hb3
 have P3:=Lib.hid (P2.out.below hb3)
 have B3:=Lib.hid (B2.out.trans (hb3.mono B2.out.size))
 unfold HAt at HA2
 rw[HK.out] at HA2
 have hsz:(Tryz.prog.info? 44).map (·.size)=some Hc.size:=by rw[← HK.out];exact head_size
 have HA2:=Lib.hid HA2
 unfold sArr at HWI
 clear hb2 hba hb3 H1 P2 B2
 go_wp2_with (first|(refine wpList_load_row rfl 44 _ rfl w.heap.size rfl 44 Hc (0,0) _ HA2.out Tryz.underlying44 rfl hsz ?_)|fail)
 refine(HWI.out _).mono ?_
 rintro e w3 ⟨rfl,hb3⟩
 have P4:=Lib.hid (P3.out.below hb3)
 have B4:=Lib.hid (B3.out.trans (hb3.mono B3.out.size))
 clear hb3 P3 B3 HA2
 go_wp2_with fail
 refine(HEN.out _).mono ?_
 rintro e w5 ⟨rfl,hb5⟩
 have P5:=Lib.hid (P4.out.below hb5)
 have B5:=Lib.hid (B4.out.trans (hb5.mono B4.out.size))
 have hsl:(str (encH hx).1).size≤200:=by
  rw[str_size]
  unfold encH
  split
  ·rename_i hc
   rw[bytsH_len hx hmx hc]
   omega
  ·simp
 clear hb5 P4 B4
 by_cases hz:(encH hx).2=0
 ·rw[hz]
  have HR2:=HR.out
  rw[if_neg (by simpa using hz)] at HR2
  have HR2:=Lib.hid HR2
  clear hz
  generalize str (encH hx).1=st at *
  have hP5:=P5.out.lt
  have HGW:=Lib.hid (bgrow_any w5.heap.size w5.heap.size n (w5.alloc (.cells #[.pointer none,.slice none 0 0] 175)) (Nat.le_refl _) (heap_new15 w5 _) (by simp) (by omega))
  have HQ:=Lib.hid (P5.out.later ((Below.refl w5.heap.size w5).alloc (Nat.le_refl _) (.cells #[.pointer none,.slice none 0 0] 175)) hP5)
  go_wp2_with fail
  refine HGW.out.mono ?_
  rintro e y0 ⟨rfl,hA0,hb0⟩
  have P6:=Lib.hid (HQ.out.later hb0 hP5)
  have A0:=Lib.hid hA0
  have z0:w5.heap.size≤y0.heap.size:=Nat.le_trans (by simp) hb0.size
  have D0:=Lib.hid (((Below.refl w5.heap.size w5).alloc (Nat.le_refl _) (.cells #[.pointer none,.slice none 0 0] 175)).trans hb0)
  clear hA0 hb0 HGW HQ
  go_wp2_with fail
  refine(bwrite_any w5.heap.size w5.heap.size [] st y0 A0.out (by simp only[List.length_append,List.length_nil,len_byt];omega) z0).mono ?_
  rintro e y1 ⟨rfl,hA1,hb1⟩
  rw[List.nil_append] at hA1
  have A1:=Lib.hid hA1
  have z1:w5.heap.size≤y1.heap.size:=Nat.le_trans z0 hb1.size
  have D1:=Lib.hid (D0.out.trans hb1)
  have P7:=P6.out.later hb1 hP5
  have q0:=P7.cell 0
  have q1:=P7.cell 1
  have q2:=P7.cell 2
  have q3:=P7.cell 3
  simp at q0 q1 q2 q3
  clear P7
  clear hA1 hb1 A0 D0
  go_wp2_with fail
  refine wp_loop_rounds 5 ?_
  rw[rounds_succ]
  go_wp2_with fail
  refine(bwrite_any w5.heap.size w5.heap.size (st.data.toList) p0 y1 A1.out (by simp only[List.length_append,List.length_nil,len_byt];omega) z1).mono ?_
  rintro e y2 ⟨rfl,hA2,hb2⟩
  have A2:=Lib.hid hA2
  have z2:w5.heap.size≤y2.heap.size:=Nat.le_trans z1 hb2.size
  have D2:=Lib.hid (D1.out.trans hb2)
  clear hA2 hb2 A1 D1
  go_wp2_with fail
  rw[rounds_succ]
  go_wp2_with fail
  refine(bwrite_any w5.heap.size w5.heap.size (st.data.toList++p0.data.toList) p1 y2 A2.out (by simp only[List.length_append,List.length_nil,len_byt];omega) z2).mono ?_
  rintro e y3 ⟨rfl,hA3,hb3⟩
  have A3:=Lib.hid hA3
  have z3:w5.heap.size≤y3.heap.size:=Nat.le_trans z2 hb3.size
  have D3:=Lib.hid (D2.out.trans hb3)
  clear hA3 hb3 A2 D2
  go_wp2_with fail
  rw[rounds_succ]
  go_wp2_with fail
  refine(bwrite_any w5.heap.size w5.heap.size (st.data.toList++p0.data.toList++p1.data.toList) p2 y3 A3.out (by simp only[List.length_append,List.length_nil,len_byt];omega) z3).mono ?_
  rintro e y4 ⟨rfl,hA4,hb4⟩
  have A4:=Lib.hid hA4
  have z4:w5.heap.size≤y4.heap.size:=Nat.le_trans z3 hb4.size
  have D4:=Lib.hid (D3.out.trans hb4)
  clear hA4 hb4 A3 D3
  go_wp2_with fail
  rw[rounds_succ]
  go_wp2_with fail
  refine(bwrite_any w5.heap.size w5.heap.size (st.data.toList++p0.data.toList++p1.data.toList++p2.data.toList) p3 y4 A4.out (by simp only[List.length_append,List.length_nil,len_byt];omega) z4).mono ?_
  rintro e y5 ⟨rfl,hA5,hb5⟩
  have A5:=Lib.hid hA5
  have z5:w5.heap.size≤y5.heap.size:=Nat.le_trans z4 hb5.size
  have D5:=Lib.hid (D4.out.trans hb5)
  clear hA5 hb5 A4 D4
  go_wp2_with fail
  rw[rounds_succ]
  go_wp2_with fail
  refine(bstr_any w5.heap.size w5.heap.size (st.data.toList++p0.data.toList++p1.data.toList++p2.data.toList++p3.data.toList) y5 A5.out z5).mono ?_
  rintro e y6 ⟨rfl,hb6⟩
  have D6:=Lib.hid (D5.out.trans hb6)
  clear hb6
  rw[cat5]
  go_wp2_with fail
  refine bodyPost_ret (results_tmp2 rfl _ _ _) rfl ⟨by rw[← HR2.out];rfl,B5.out.trans (D6.out.mono B5.out.size)⟩
 ·have HR2:=HR.out
  rw[if_pos hz] at HR2
  have HR2:=Lib.hid HR2
  have hzn:((encH hx).2 != 0)=true:=by simpa using hz
  generalize (encH hx).2=er at *
  clear hz
  go_wp2_with fail
  refine bodyPost_ret (results_tmp2 rfl _ _ _) rfl ⟨by rw[← HR2.out];rfl,B5.out⟩
end Go.Proofs.YtdnmgpcfgcidbaaGreatDoor
