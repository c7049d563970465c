/- cPd. -/
import Derived.Test.YtjkgkmmkehnggaaGreatDoorVc4
namespace Go.Proofs.YtjkgkmmkehnggaaGreatDoor
set_option linter.unusedVariables false
set_option linter.unusedSimpArgs false
open Go.RowKit
set_option maxRecDepth 100000
theorem len_byt (s:ByteArray):s.data.toList.length=s.size:=rfl
theorem Box.later {w w':World} {B b:Nat} {arr:Array Value} (h:Box w b arr) (hb:Below B w w') (hB:b<B):Box w' b arr:=by
 obtain⟨T,h⟩:=h
 exact⟨T,(hb.block b hB).trans h⟩
theorem cat5 (a b c d f:ByteArray):(⟨(a.data.toList++b.data.toList++c.data.toList++d.data.toList++f.data.toList).toArray⟩:ByteArray)=a++b++c++d++f:=by
 apply ByteArray.ext
 simp
set_option maxHeartbeats 4000000 in
theorem glue15_any (h:Hd) (p:Pt) (w:World) (hm:MayH h) (hp:Few p 200000000):Calls Tryz.prog 32 #[.agg (cH h),.agg (pArr p)] w fun e w'=>e=.returned (.tuple #[.string (glueN h p).1,.int .i64 (glueN h p).2])∧Below w.heap.size w w':=by
 have hsf:=sec_few hp
 have hmx:=with_may hm (mayS_few hp)
 have hg:glueN h p=if (encH (withN h (secOf p).sec)).2≠0 then (noBCc,(encH (withN h (secOf p).sec)).2) else (str (encH (withN h (secOf p).sec)).1++p.p0++p.p1++p.p2++p.p3,0):=by
  unfold glueN
  rw[if_neg (by rw[hsf];simp)]
 have HLN:=Lib.hid (fun X=>lens15_any p X hp)
 obtain⟨p0,p1,p2,p3⟩:=p
 obtain⟨l0,l1,l2,l3⟩:=hp
 dsimp only at l0 l1 l2 l3 HLN
 obtain⟨W,hW⟩:∃ W,(w.alloc (.cells (cH h) 93)).alloc (.cells #[.string p0,.string p1,.string p2,.string p3] 95)=W:=⟨_,rfl⟩
 have h0:HAt W w.heap.size 93 h:=by
  rw[← hW]
  exact(heap_alloc_old (by simp)).trans (HAt.made w h _)
 have h1:Box W (w.heap.size+1) #[.string p0,.string p1,.string p2,.string p3]:=by
  have:=box_new (w.alloc (.cells (cH h) 93)) #[.string p0,.string p1,.string p2,.string p3] 95
  rw[World.size_alloc] at this
  rw[← hW]
  exact this
 have hbw:Below w.heap.size w W:=by rw[← hW];exact((Below.refl _ w).alloc (Nat.le_refl _) _).alloc (by simp) _
 have s0:=h1.cell 0
 have s1:=h1.cell 1
 have s2:=h1.cell 2
 have s3:=h1.cell 3
 simp at s0 s1 s2 s3
 have HSC:=Lib.hid (fun X=>sections15_any p0.size p1.size p2.size p3.size X (by unfold U64;omega) (by unfold U64;omega) (by unfold U64;omega) (by unfold U64;omega))
 have hso:secsN p0.size p1.size p2.size p3.size=secOf ⟨p0,p1,p2,p3⟩:=rfl
 rw[hso] at HSC
 have hse:(secOf ⟨p0,p1,p2,p3⟩).err=0:=by rw[hsf]
 obtain⟨n,hn,hn2⟩:∃ n:Nat,(secOf ⟨p0,p1,p2,p3⟩).all=n∧n≤1000000000:=⟨127+p0.size+p1.size+p2.size+p3.size,by rw[hsf];simp,by omega⟩
 have hwn:IntKind.i64.wrap (n:Int)=(n:Int):=by rw[IntKind.wrap_i64];omega
 unfold SecEnd at HSC
 rw[hse,hn] at HSC
 generalize secOf ⟨p0,p1,p2,p3⟩=S at *
 have HEN:=Lib.hid (fun X=>encode_any (withN h S.sec) X hmx)
 have HWI:=Lib.hid (fun X=>with15_any h S.sec X)
 rw[hg]
 generalize withN h S.sec=hx at *
 obtain⟨R,hR⟩:∃ R,(if (encH hx).2≠0 then (noBCc,(encH hx).2) else (str (encH hx).1++p0++p1++p2++p3,0))=R:=⟨_,rfl⟩
 rw[hR]
 have HR:=Lib.hid hR
 have H0:=Lib.hid h0
 have P1:=Lib.hid h1
 have B1:=Lib.hid hbw
 clear hR h0 h1 hbw hg hsf hso hse hn
 generalize hk:cH h=Hc at *
 have HK:=Lib.hid hk
 clear hk
 unfold pArr at HLN ⊢
 have i0:=fun W=>(idx_p (.string p0) (.string p1) (.string p2) (.string p3) W).1
 have i1:=fun W=>(idx_p (.string p0) (.string p1) (.string p2) (.string p3) W).2.1
 have i2:=fun W=>(idx_p (.string p0) (.string p1) (.string p2) (.string p3) W).2.2.1
 have i3:=fun W=>(idx_p (.string p0) (.string p1) (.string p2) (.string p3) W).2.2.2
 go_enter Tryz.func32,Tryz.ntmps32
 go_wp2_with fail
 try rw[hW]
 clear hW
 refine(HLN.out _).mono ?_
 rintro e w1 ⟨rfl,hb1⟩
 have H1:=Lib.hid (H0.out.later hb1)
 have P2:=Lib.hid (P1.out.below hb1)
 have B2:=Lib.hid (B1.out.trans (hb1.mono B1.out.size))
 clear hb1 s0 s1 s2 s3 H0 P1 B1
 go_wp2_with fail
 refine(HSC.out _).mono ?_
 rintro e w2 ⟨rfl,hb2⟩
 unfold sArr
 have hba:Below w2.heap.size w2 (w2.alloc (.cells #[.int .u64 S.sec.rf,.int .u64 S.sec.rl,.int .u64 S.sec.mf,.int .u64 S.sec.ml,.int .u64 S.sec.lf,.int .u64 S.sec.ll,.int .u64 S.sec.df,.int .u64 S.sec.dl] 165)):=(Below.refl _ _).alloc (Nat.le_refl _) _
 have hb3:=hb2.trans (hba.mono hb2.size)
 have HA2:=H1.out.later hb3
 have P3:=Lib.hid (P2.out.below hb3)
 have B3:=Lib.hid (B2.out.trans (hb3.mono B2.out.size))
 unfold HAt at HA2
 rw[HK.out] at HA2
 have hsz:(Tryz.prog.info? 93).map (·.size)=some Hc.size:=by rw[← HK.out];exact head_size
 have HA2:=Lib.hid HA2
 unfold sArr at HWI
 clear hb2 hba hb3 H1 P2 B2
 go_wp2_with (first|(refine wpList_load_row rfl 93 _ rfl w.heap.size rfl 93 Hc (0,0) _ HA2.out Tryz.underlying93 rfl hsz ?_)|fail)
 refine(HWI.out _).mono ?_
 rintro e w3 ⟨rfl,hb3⟩
 have P4:=Lib.hid (P3.out.below hb3)
 have B4:=Lib.hid (B3.out.trans (hb3.mono B3.out.size))
 clear hb3 P3 B3 HA2
 go_wp2_with fail
 refine(HEN.out _).mono ?_
 rintro e w5 ⟨rfl,hb5⟩
 have P5:=Lib.hid (P4.out.below hb5)
 have B5:=Lib.hid (B4.out.trans (hb5.mono B4.out.size))
 have hsl:(str (encH hx).1).size≤200:=by
  rw[str_size]
  unfold encH
  split
  ·rename_i hc
   rw[bytsH_len hx hmx hc]
   omega
  ·simp
 clear hb5 P4 B4
 by_cases hz:(encH hx).2=0
 ·rw[hz]
  have HR2:=HR.out
  rw[if_neg (by simpa using hz)] at HR2
  have HR2:=Lib.hid HR2
  clear hz
  generalize str (encH hx).1=st at *
  have hP5:=P5.out.lt
  have HGW:=Lib.hid (bgrow_any w5.heap.size w5.heap.size n (w5.alloc (.cells #[.pointer none,.slice none 0 0] 174)) (Nat.le_refl _) (heap_new15 w5 _) (by simp) (by omega))
  have HQ:=Lib.hid (P5.out.later ((Below.refl w5.heap.size w5).alloc (Nat.le_refl _) (.cells #[.pointer none,.slice none 0 0] 174)) hP5)
  go_wp2_with fail
  refine HGW.out.mono ?_
  rintro e y0 ⟨rfl,hA0,hb0⟩
  have P6:=Lib.hid (HQ.out.later hb0 hP5)
  have A0:=Lib.hid hA0
  have z0:w5.heap.size≤y0.heap.size:=Nat.le_trans (by simp) hb0.size
  have D0:=Lib.hid (((Below.refl w5.heap.size w5).alloc (Nat.le_refl _) (.cells #[.pointer none,.slice none 0 0] 174)).trans hb0)
  clear hA0 hb0 HGW HQ
  go_wp2_with fail
  refine(bwrite_any w5.heap.size w5.heap.size [] st y0 A0.out (by simp only[List.length_append,List.length_nil,len_byt];omega) z0).mono ?_
  rintro e y1 ⟨rfl,hA1,hb1⟩
  rw[List.nil_append] at hA1
  have A1:=Lib.hid hA1
  have z1:w5.heap.size≤y1.heap.size:=Nat.le_trans z0 hb1.size
  have D1:=Lib.hid (D0.out.trans hb1)
  have P7:=P6.out.later hb1 hP5
  have q0:=P7.cell 0
  have q1:=P7.cell 1
  have q2:=P7.cell 2
  have q3:=P7.cell 3
  simp at q0 q1 q2 q3
  clear P7
  clear hA1 hb1 A0 D0
  go_wp2_with fail
  refine wp_loop_rounds 5 ?_
  rw[rounds_succ]
  go_wp2_with fail
  refine(bwrite_any w5.heap.size w5.heap.size (st.data.toList) p0 y1 A1.out (by simp only[List.length_append,List.length_nil,len_byt];omega) z1).mono ?_
  rintro e y2 ⟨rfl,hA2,hb2⟩
  have A2:=Lib.hid hA2
  have z2:w5.heap.size≤y2.heap.size:=Nat.le_trans z1 hb2.size
  have D2:=Lib.hid (D1.out.trans hb2)
  clear hA2 hb2 A1 D1
  go_wp2_with fail
  rw[rounds_succ]
  go_wp2_with fail
  refine(bwrite_any w5.heap.size w5.heap.size (st.data.toList++p0.data.toList) p1 y2 A2.out (by simp only[List.length_append,List.length_nil,len_byt];omega) z2).mono ?_
  rintro e y3 ⟨rfl,hA3,hb3⟩
  have A3:=Lib.hid hA3
  have z3:w5.heap.size≤y3.heap.size:=Nat.le_trans z2 hb3.size
  have D3:=Lib.hid (D2.out.trans hb3)
  clear hA3 hb3 A2 D2
  go_wp2_with fail
  rw[rounds_succ]
  go_wp2_with fail
  refine(bwrite_any w5.heap.size w5.heap.size (st.data.toList++p0.data.toList++p1.data.toList) p2 y3 A3.out (by simp only[List.length_append,List.length_nil,len_byt];omega) z3).mono ?_
  rintro e y4 ⟨rfl,hA4,hb4⟩
  have A4:=Lib.hid hA4
  have z4:w5.heap.size≤y4.heap.size:=Nat.le_trans z3 hb4.size
  have D4:=Lib.hid (D3.out.trans hb4)
  clear hA4 hb4 A3 D3
  go_wp2_with fail
  rw[rounds_succ]
  go_wp2_with fail
  refine(bwrite_any w5.heap.size w5.heap.size (st.data.toList++p0.data.toList++p1.data.toList++p2.data.toList) p3 y4 A4.out (by simp only[List.length_append,List.length_nil,len_byt];omega) z4).mono ?_
  rintro e y5 ⟨rfl,hA5,hb5⟩
  have A5:=Lib.hid hA5
  have z5:w5.heap.size≤y5.heap.size:=Nat.le_trans z4 hb5.size
  have D5:=Lib.hid (D4.out.trans hb5)
  clear hA5 hb5 A4 D4
  go_wp2_with fail
  rw[rounds_succ]
  go_wp2_with fail
  refine(bstr_any w5.heap.size w5.heap.size (st.data.toList++p0.data.toList++p1.data.toList++p2.data.toList++p3.data.toList) y5 A5.out z5).mono ?_
  rintro e y6 ⟨rfl,hb6⟩
  have D6:=Lib.hid (D5.out.trans hb6)
  clear hb6
  rw[cat5]
  go_wp2_with fail
  refine bodyPost_ret (results_tmp2 rfl _ _ _) rfl ⟨by rw[← HR2.out];rfl,B5.out.trans (D6.out.mono B5.out.size)⟩
 ·have HR2:=HR.out
  rw[if_pos hz] at HR2
  have HR2:=Lib.hid HR2
  have hzn:((encH hx).2 != 0)=true:=by simpa using hz
  generalize (encH hx).2=er at *
  clear hz
  go_wp2_with fail
  refine bodyPost_ret (results_tmp2 rfl _ _ _) rfl ⟨by rw[← HR2.out];rfl,B5.out⟩
end Go.Proofs.YtjkgkmmkehnggaaGreatDoor
