/- Wr Ws Wt Wx Wy. -/
import Derived.Test.YtjkgkmmkehnggaaGreatDoorYs
import Derived.Test.YtjkgkmmkehnggaaGreatDoorYZ7
import Derived.Test.YtjkgkmmkehnggaaGreatDoorYZ4
set_option maxHeartbeats 16000000
namespace Go.Proofs.YtjkgkmmkehnggaaGreatDoor
set_option linter.unusedVariables false
set_option linter.unusedSimpArgs false
open Go.RowKit Go.Maps
set_option maxRecDepth 100000
theorem xhp {ops:Array Oper} {S:World→Prop} {op:Oper} {a:Act} (hw:Region.wanted op (yielded ops a.tmps)=true) (x:Operand) (ho:op.op=.load 93 x)
  (g:Nat) (hx:a.eval x=.pointer (some ⟨g,0,none⟩)) (T:TypeId) (h:Hd) (hS:∀ w,S w→HAt w g T h):YieldsIf Tryz.prog ops S op (.agg (cH h)) a :=
 .inl ⟨hw,fun w hw'=>by
  unfold execOp
  simp only[ho,hx,Instr.loadAt,Instr.sureAddr,Sem.run_bind,Sem.run_pure,Result.andThen_ok,run_loadVar_row w g T 93 (cH h) (0,0) _ (hS w hw') Tryz.underlying93 rfl xaP]⟩
theorem xqQ (x:Int) (c0 c1 c2 c3 c4 c5:Bool):x ∈ xcW c5 7 (xcW c4 6 (xcW c3 5 (xcW c2 4 (xcW c1 3 (xcW c0 2 [])))))↔x ∈ xbq 2 [!c0,!c1,!c2,!c3,!c4,!c5]:=by
 rw[xbG,xbG,xbG,xbG,xbG,xbG,xaV,xaV,xaV,xaV,xaV,xaV]
 simp only[xbq,List.not_mem_nil,false_or,or_false,Bool.not_eq_false',show (2:Int)+1=3 from rfl,show (3:Int)+1=4 from rfl,show (4:Int)+1=5 from rfl,show (5:Int)+1=6 from rfl,show (6:Int)+1=7 from rfl]
 simp only[or_assoc]
theorem xAZ (l:List Int) (y:Hd) (h:xcB l=(y,0)):127≤l.length∧l.take 7=mgH∧l.getD 7 0=3∧l.getD 96 0≤1∧y=xxj l∧ckH y=0:=by
 unfold xcB at h
 split at h
 ·simp at h
 split at h
 ·simp at h
 split at h
 ·simp at h
 split at h
 ·simp at h
 split at h
 ·obtain⟨e,-⟩:=Prod.mk.injEq .. ▸ h
  subst e
  refine⟨by omega,?_,?_,by omega,rfl,by assumption⟩
  ·rename_i h1 _ _ _;exact Classical.not_not.1 h1
  ·rename_i h1 _ _;exact Classical.not_not.1 h1
 ·obtain⟨-,e⟩:=Prod.mk.injEq .. ▸ h
  contradiction
theorem HAt.grownBy {W X:World} {g:Nat} {T:TypeId} {h:Hd} {row:Option Nat} (hh:HAt W g T h) (hg:W.grownBy X row) (hn:some g≠row):HAt X g T h:=(hg.block g hh.lt hn).trans hh
theorem xqk (d:ByteArray) (l:List En) (hg:xeF l):xeF (xjd d l).l:=by rw[← xiq];exact xj0 d l hg _ (Nat.le_refl _)
theorem xvN (d:ByteArray) (l:List En) (h:l.length≤4096):(xjd d l).l.length≤16777216:=by
 rw[← xiq]
 have:=xiP d l l.length (Nat.le_refl _)
 omega
theorem xw9 (P:Prop) (x:Int) (a b:Bool):(P∨(x=8∧a=true)∨(x=9∧b=true))↔P∨x ∈ xbq 8 [!a,!b]:=by rw[xaV,xaV];simp[xbq]
theorem xyF (P Q:Prop) (x:Int):((P∨(x=8∧false=true)∨(x=9∧false=true))∨Q)↔P∨Q:=by simp
theorem xwo {s:ByteArray} {X:Hd} (h:xcB (xb2 s)=(X,0)):xeR X∧xcG X=true:=by
 obtain⟨h1,_,_,_,h5,h6⟩:=xAZ _ _ h
 have hs:127≤s.size:=by rw[show (xb2 s).length=s.size by simp[xb2]] at h1;exact h1
 rw[xf9 s hs] at h5
 refine⟨by rw[h5];exact xnt s hs,?_⟩
 unfold ckH at h6
 split at h6
 ·rename_i h;exact h
 ·omega
theorem xcT {W:World} {g:Nat} {T:TypeId} {X:Hd} (h:HAt W g T X):(W.cell? ⟨g,0,none⟩=some (.int .u64 X.rf)∧W.cell? ⟨g,1,none⟩=some (.int .u64 X.rl)∧W.cell? ⟨g,2,none⟩=some (.int .u64 X.mf)∧W.cell? ⟨g,3,none⟩=some (.int .u64 X.ml)∧W.cell? ⟨g,4,none⟩=some (.int .u64 X.lf)∧W.cell? ⟨g,5,none⟩=some (.int .u64 X.ll)∧W.cell? ⟨g,6,none⟩=some (.int .u64 X.df)∧W.cell? ⟨g,7,none⟩=some (.int .u64 X.dl))∧W.cell? ⟨g,11,none⟩=some (.bool X.cl)∧W.cell? ⟨g,12,none⟩=some (.int .u8 X.inn)∧W.cell? ⟨g,13,none⟩=some (.int .u8 X.out) :=
 ⟨⟨at0 h,at1 h,at2 h,at3 h,at4 h,at5 h,at6 h,at7 h⟩,xCQ h,xCC h,xCF h⟩
def xl5 (b:Nat) (C:List Int) (w:World) (e:Ending) (w':World):Prop:=e=.returned (.tuple #[])∧∃ R,xbr w' b R∧(∀ x,x ∈ R↔x ∈ C)∧w.grownBy w' (some b)
theorem xq7 (b:Nat) (s:ByteArray) (bud:Int) (w:World) (hq:∀ W,w.grownBy W (some b)→QTab W) (hB:xbr w b []) (hs:s.size≤1000000) (hbu:-9223372036854775808≤bud∧bud≤9223372036854775807) :
  Calls Tryz.prog 14 #[.map (some b),.string s,.int .i64 bud] w (xl5 b (xbs s bud) w):=by
 have HQ:=lH hq
 have HB:=lH hB
 have HD:=lH (xpp s w (by unfold maxLen;omega))
 have hw5:IntKind.u64.wrap (s.size:Int)=(s.size:Int):=by rw[IntKind.wrap_u64];omega
 unfold xl5
 obtain⟨E,hE⟩:∃ E,xcB (xb2 s)=E:=⟨_,rfl⟩
 rw[hE] at HD
 obtain⟨X,z⟩:=E
 dsimp only at HD
 obtain⟨C,hC⟩:∃ C,xbs s bud=C:=⟨_,rfl⟩
 rw[hC]
 unfold xbs at hC
 rw[hE] at hC
 have HE:=lH hE
 clear hq hB hE
 go_enter Tryz.func14,Tryz.ntmps14
 go_wp2_with fail
 refine HD.out.mono ?_
 rintro x w1 ⟨rfl,hb1⟩
 have HZ:HAt (w1.alloc (.cells #[.int .u64 0,.int .u64 0,.int .u64 0,.int .u64 0,.int .u64 0,.int .u64 0,.int .u64 0,.int .u64 0,.int .u64 0,.int .u64 0,.int .u64 0,.bool false,.int .u8 0,.int .u8 0,.int .u8 0,.int .i64 0,.int .i64 0,.int .i64 0,.int .i64 0,.int .i64 0,.int .i64 0,.int .i64 0,.int .i64 0,.int .i64 0] 93)) w1.heap.size 93 xae:=HAt.zero w1 _
 have hb2:Below w.heap.size w (w1.alloc (.cells #[.int .u64 0,.int .u64 0,.int .u64 0,.int .u64 0,.int .u64 0,.int .u64 0,.int .u64 0,.int .u64 0,.int .u64 0,.int .u64 0,.int .u64 0,.bool false,.int .u8 0,.int .u8 0,.int .u8 0,.int .i64 0,.int .i64 0,.int .i64 0,.int .i64 0,.int .i64 0,.int .i64 0,.int .i64 0,.int .i64 0,.int .i64 0] 93)):=hb1.alloc hb1.size _
 have HB2:=lH (And.intro hb2 hb1.size)
 clear hb1 hb2 HD
 by_cases hz:z=0
 ·subst hz
  rw[if_neg (by simp)] at hC
  obtain⟨hm,hsb⟩:=xwo HE.out
  obtain⟨n0,n1,n2,n3⟩:=xq9 hsb
  have hmm:=hm
  unfold xeR U64 at hmm
  have HLD:=lH (fun W=>xuu X (s.size:Int) W hm)
  have HTG:=lH (fun W=>xoJ X (s.size:Int) W hm hsb)
  have HT0:=lH (fun W=>xfe s X.rf X.rl W hs (by omega) (by omega) n0)
  have HT1:=lH (fun W=>xfe s X.mf X.ml W hs (by omega) (by omega) n1)
  have HT2:=lH (fun W=>xfe s X.lf X.ll W hs (by omega) (by omega) n2)
  have HT3:=lH (fun W=>xfe s X.df X.dl W hs (by omega) (by omega) n3)
  have hx:∀ f l,(xeh s f l).size≤1000000:=fun f l=>by unfold xeh;rw[ByteArray.size_extract];omega
  have HX:=lH hx
  have HOB:=lH (fun W hq=>xvc (xeh s X.mf X.ml) W hq (hx _ _))
  have HDC:=lH (fun W=>xjM (xeh s X.rf X.rl) W (by have:=hx X.rf X.rl;unfold maxLen;omega))
  unfold xmo xeo at hC
  obtain⟨D,hD⟩:∃ D,xht X s=D:=⟨_,rfl⟩
  have hDD:xco (xeh s X.rf X.rl).data.toList=D:=hD
  rw[hDD] at HDC
  have HGD:=lH (show xeF D.1 from by rw[← hDD];exact xnA _)
  have HFD:=lH (show D.1.length≤4096 from by rw[← hDD];exact xmK _)
  have hbk:xhs X s=(if ((xjd (xeh s X.lf X.ll) D.1).lf || (xjd (xeh s X.lf X.ll) D.1).dp)=true then xbq 8 [!(xjd (xeh s X.lf X.ll) D.1).lf,!(xjd (xeh s X.lf X.ll) D.1).dp] else xbq 10 (xj6 X (xjd (xeh s X.lf X.ll) D.1).l (xeh s X.df X.dl))):=by
   unfold xhs;rw[hD]
  rw[hbk,hD] at hC
  unfold xkN at HDC
  obtain⟨L,hL⟩:∃ L,xfW X (s.size:Int)=L:=⟨_,rfl⟩
  obtain⟨TT,hT⟩:∃ TT,xep X (s.size:Int)=TT:=⟨_,rfl⟩
  obtain⟨ob,hob⟩:∃ ob,xu3 (xd5 (bI (xeh s X.mf X.ml))).1=ob:=⟨_,rfl⟩
  rw[hL,hT,hob] at hC
  rw[hL] at HLD
  rw[hT] at HTG
  rw[hob] at HOB
  obtain⟨c0,hc0⟩:∃ c,(L != 0)=c:=⟨_,rfl⟩
  obtain⟨c2,hc2⟩:∃ c,(!(decide (X.inn=1) && (decide (X.out=1) && X.cl)))=c:=⟨_,rfl⟩
  obtain⟨c4,hc4⟩:∃ c,(!xAQ X bud)=c:=⟨_,rfl⟩
  obtain⟨c5,hc5⟩:∃ c,(D.2.2 != 0)=c:=⟨_,rfl⟩
  have hfr:[decide (L=0),TT,decide (X.inn=1) && (decide (X.out=1) && X.cl),ob,xAQ X bud,decide (D.2.2=0)]=[!c0,!(!TT),!c2,!(!ob),!c4,!c5]:=by
   rw[← hc0,← hc2,← hc4,← hc5]
   simp only[Bool.not_not,bne,Bool.not_not]
   rw[show decide (L=0)=(L == 0) by rw[Bool.eq_iff_iff];simp,show decide (D.2.2=0)=(D.2.2 == 0) by rw[Bool.eq_iff_iff];simp]
  rw[hfr] at hC
  have HMF:=lH (fun x=>xqQ x c0 (!TT) c2 (!ob) c4 c5)
  have HC:=lH hC
  have HC2:=lH hc2
  have HC4:=lH hc4
  have HM:=lH hmm
  clear hC hc2 hc4 hfr hbk hDD hD hL hT hob hx hm hsb hmm n0 n1 n2 n3
  have HZZ:=HZ
  go_wp2_with (first|(refine xbl (by rfl) _ _ rfl _ rfl X rfl _ xae (by assumption) rfl ?_;intro wS HP)|fail)
  have HS0:=lH (show StE w wS b w1.heap.size X [] from ⟨HB.out.below (HP.2.2.1 _ _ HB2.out.2 HB2.out.1) HB.out.lt,HP.1,⟨HB.out.lt,HB2.out.2⟩,xbd (World.grownBy.refl _ _) (HP.2.2.1 _ _ HB2.out.2 HB2.out.1)⟩)
  clear HP HZ HZZ HB2 HB HE
  generalize w1.heap.size=g at *
  refine(xaZ b 1 false [] wS HS0.out.brk (by omega) (by unfold maxLen;simp)).mono ?_
  rintro x w2 ⟨rfl,hB,hg⟩
  have HS1:=lH (show StE w w2 b g X [] from HS0.out.asked (Below.refl _ _) hg hB)
  clear hB hg HS0
  obtain⟨R2,hR2⟩:∃ R:List Int,R=[]:=⟨_,rfl⟩
  rw[← hR2] at HS1
  have hl2:R2.length≤0:=by rw[hR2];simp
  have HS2:=HS1
  have HR2:=lH hR2
  clear hR2 HS1
  have hHH:=HS2.out.hd
  go_wp2_with (first|(refine xaA (by rfl) _ rfl _ rfl _ X (by assumption) ?_)|fail)
  refine(HLD.out _).mono ?_
  rintro x v2 ⟨rfl,hb⟩
  have HT:=lH (HS2.out.below hb)
  clear hb hHH HS2
  have HA:=lH (xaZ b 2 c0 R2 v2 HT.out.brk (by omega) (by unfold maxLen;omega))
  go_wp2_with fail
  refine HA.out.mono ?_
  rintro x w3 ⟨rfl,hB,hg⟩
  have HS3:=lH (HT.out.asked (Below.refl _ _) hg hB)
  have hl3:(xcW c0 2 R2).length≤1:=by have:=xbm c0 2 R2;omega
  clear hB hg HA
  obtain⟨R3,hR3⟩:∃ R,xcW c0 2 R2=R:=⟨_,rfl⟩
  rw[hR3] at HS3 hl3
  have HR3:=lH hR3
  clear hR3
  have hHH:=HS3.out.hd
  clear HT hc0
  go_wp2_with (first|(refine xaA (by rfl) _ rfl _ rfl _ X (by assumption) ?_)|fail)
  refine(HTG.out _).mono ?_
  rintro x v3 ⟨rfl,hb⟩
  have HT:=lH (HS3.out.below hb)
  clear hb hHH HS3
  have HA:=lH (xaZ b 3 (!TT) R3 v3 HT.out.brk (by omega) (by unfold maxLen;omega))
  go_wp2_with fail
  refine HA.out.mono ?_
  rintro x w4 ⟨rfl,hB,hg⟩
  have HS4:=lH (HT.out.asked (Below.refl _ _) hg hB)
  have hl4:(xcW (!TT) 3 R3).length≤2:=by have:=xbm (!TT) 3 R3;omega
  clear hB hg HA
  obtain⟨R4,hR4⟩:∃ R,xcW (!TT) 3 R3=R:=⟨_,rfl⟩
  rw[hR4] at HS4 hl4
  have HR4:=lH hR4
  clear hR4
  clear HT HLD HTG
  go_upto_region 5 with fail
  go_cut [] from 12 to 104 (fun wx=>Hid (StE w wx b g X (xcW c2 4 R4)))
  case first =>
   obtain⟨-,k11,k12,k13⟩:=xcT HS4.out.hd
   have HA:=lH (fun c=>xaZ b 4 c R4 w4 HS4.out.brk (by omega) (by unfold maxLen;omega))
   by_cases g1:X.inn=1
   ·have t1:(X.inn != 1)=false:=by simpa using g1
    by_cases g2:X.out=1
    ·have t2:(X.out != 1)=false:=by simpa using g2
     have HV:Hid ((!X.cl)=c2):=lH (by rw[← HC2.out];simp[g1,g2])
     clear g1 g2
     go_wp2_with fail
     refine(HA.out _).mono ?_
     rintro x w5 ⟨rfl,hB,hg⟩
     have HSX:=lH (HS4.out.asked (Below.refl _ _) hg hB)
     rw[HV.out] at HSX
     clear hB hg
     go_wp2_with fail
     go_meet
     case rel=>exact HSX
    ·have t2:(X.out != 1)=true:=by simpa using g2
     have HV:Hid (true=c2):=lH (by rw[← HC2.out];simp[g1,g2])
     clear g1 g2
     go_wp2_with fail
     refine(HA.out _).mono ?_
     rintro x w5 ⟨rfl,hB,hg⟩
     have HSX:=lH (HS4.out.asked (Below.refl _ _) hg hB)
     rw[HV.out] at HSX
     clear hB hg
     go_wp2_with fail
     go_meet
     case rel=>exact HSX
   ·have t1:(X.inn != 1)=true:=by simpa using g1
    have HV:Hid (true=c2):=lH (by rw[← HC2.out];simp[g1])
    clear g1
    go_wp2_with fail
    refine(HA.out _).mono ?_
    rintro x w5 ⟨rfl,hB,hg⟩
    have HSX:=lH (HS4.out.asked (Below.refl _ _) hg hB)
    rw[HV.out] at HSX
    clear hB hg
    go_wp2_with fail
    go_meet
    case rel=>exact HSX
  case rest =>
   rename_i K hK
   refine hK _ _ ?_
   clear hK K
   have HS5:=hcut
   clear hcut HS4
   generalize wc=w5 at *
   have hl5:(xcW c2 4 R4).length≤3:=by have:=xbm c2 4 R4;omega
   obtain⟨R5,hR5⟩:∃ R,xcW c2 4 R4=R:=⟨_,rfl⟩
   rw[hR5] at HS5 hl5
   have HR5:=lH hR5
   clear hR5
   obtain⟨⟨-,-,k2,k3,-⟩,-⟩:=xcT HS5.out.hd
   go_wp2_with fail
   refine(HT1.out _).mono ?_
   rintro x v5 ⟨rfl,hb⟩
   have HT:=lH (HS5.out.below hb)
   have HO:=lH (HOB.out _ (HQ.out _ HT.out.gr))
   clear hb HS5 k2 k3
   go_wp2_with fail
   refine HO.out.mono ?_
   rintro x v6 ⟨rfl,hb⟩
   have HTT:=lH (HT.out.below hb)
   clear hb HT HO
   have HA:=lH (xaZ b 5 (!ob) R5 v6 HTT.out.brk (by omega) (by unfold maxLen;omega))
   go_wp2_with fail
   refine HA.out.mono ?_
   rintro x w6 ⟨rfl,hB,hg⟩
   have HS6:=lH (HTT.out.asked (Below.refl _ _) hg hB)
   have hl6:(xcW (!ob) 5 R5).length≤4:=by have:=xbm (!ob) 5 R5;omega
   clear hB hg HA
   obtain⟨R6,hR6⟩:∃ R,xcW (!ob) 5 R5=R:=⟨_,rfl⟩
   rw[hR6] at HS6 hl6
   have HR6:=lH hR6
   clear hR6
   clear HTT HT1 HOB
   go_upto_region 7 with fail
   go_cut [] from 12 to 104 (fun wx=>Hid (StE w wx b g X (xcW c4 6 R6)))
   case first =>
    obtain⟨⟨-,k1,-⟩,-⟩:=xcT HS6.out.hd
    have HA:=lH (fun c=>xaZ b 6 c R6 w6 HS6.out.brk (by omega) (by unfold maxLen;omega))
    by_cases g1:bud<0
    ·have t1:decide (bud<0)=true:=decide_eq_true g1
     have HV:Hid (true=c4):=lH (by rw[← HC4.out];unfold xAQ;simp;omega)
     clear g1
     go_wp2_with fail
     refine(HA.out _).mono ?_
     rintro x w7 ⟨rfl,hB,hg⟩
     have HSX:=lH (HS6.out.asked (Below.refl _ _) hg hB)
     rw[HV.out] at HSX
     clear hB hg
     go_wp2_with fail
     go_meet
     case rel=>exact HSX
    ·have t1:decide (bud<0)=false:=decide_eq_false g1
     have hwb:IntKind.u64.wrap bud=bud:=by rw[IntKind.wrap_u64];omega
     have HV:Hid (decide (bud<X.rl)=c4):=lH (by rw[← HC4.out];unfold xAQ;rw[decide_eq_true (show 0≤bud by omega),Bool.true_and,Bool.eq_iff_iff];simp)
     clear g1
     go_wp2_with fail
     refine(HA.out _).mono ?_
     rintro x w7 ⟨rfl,hB,hg⟩
     have HSX:=lH (HS6.out.asked (Below.refl _ _) hg hB)
     rw[HV.out] at HSX
     clear hB hg
     go_wp2_with fail
     go_meet
     case rel=>exact HSX
   case rest =>
    rename_i K hK
    refine hK _ _ ?_
    clear hK K
    have HS7:=hcut
    clear hcut HS6
    generalize wc=w7 at *
    have hl7:(xcW c4 6 R6).length≤5:=by have:=xbm c4 6 R6;omega
    obtain⟨R7,hR7⟩:∃ R,xcW c4 6 R6=R:=⟨_,rfl⟩
    rw[hR7] at HS7 hl7
    have HR7:=lH hR7
    clear hR7
    obtain⟨⟨k0,k1,-⟩,-⟩:=xcT HS7.out.hd
    go_wp2_with fail
    refine(HT0.out _).mono ?_
    rintro x v7 ⟨rfl,hb⟩
    have HT:=lH (HS7.out.below hb)
    clear hb HS7 k0 k1
    go_wp2_with fail
    refine(HDC.out _).mono ?_
    rintro x v8 ⟨vr,rfl,ho,hb⟩
    have HTT:=lH (HT.out.below hb)
    have HEN:=lH ho.ensAt
    clear hb HT ho HDC HT0
    obtain⟨rt,mm,ze⟩:=D
    dsimp only at hc5 HC HGD HFD HEN ⊢
    obtain⟨ar,cr,rfl⟩:=xak HEN.out
    have HA:=lH (xaZ b 7 c5 R7 v8 HTT.out.brk (by omega) (by unfold maxLen;omega))
    go_wp2_with fail
    refine HA.out.mono ?_
    rintro x w8 ⟨rfl,hB,hg⟩
    have HEN8:=lH (HEN.out.grown hg HTT.out.brk.map)
    have HS8:=lH (HTT.out.asked (Below.refl _ _) hg hB)
    have hl8:(xcW c5 7 R7).length≤6:=by have:=xbm c5 7 R7;omega
    clear hB hg HA
    obtain⟨R8,hR8⟩:∃ R,xcW c5 7 R7=R:=⟨_,rfl⟩
    rw[hR8] at HS8 hl8
    have HR8:=lH hR8
    clear hR8
    clear HEN HTT
    have H8:Hid (∀ x,x ∈ R8↔x ∈ xbq 2 [!c0,!(!TT),!c2,!(!ob),!c4,!c5]):=lH (fun x=>by rw[← HMF.out x,← HR8.out,← HR7.out,← HR6.out,← HR5.out,← HR4.out,← HR3.out,HR2.out])
    clear HMF HR8 HR7 HR6 HR5 HR4 HR3 HR2
    cases c5 with
    | true =>
     rw[if_pos (by simpa using hc5)] at HC
     go_wp2_with fail
     exact bodyPost_ret (results_none rfl _ _ _) rfl ⟨rfl,_,HS8.out.brk,fun x=>by rw[H8.out x,HC.out],HS8.out.gr⟩
    | false =>
     rw[if_neg (by simpa using hc5)] at HC
     have HE8:=lH (fun W (hW:Below w8.heap.size w8 W)=>HEN8.out.below hW)
     clear hc5 HEN8
     obtain⟨⟨-,-,-,-,k4,k5,-⟩,-⟩:=xcT HS8.out.hd
     obtain⟨A,hA⟩:∃ A,xjd (xeh s X.lf X.ll) rt=A:=⟨_,rfl⟩
     rw[hA] at HC
     have HGA:=lH (show xeF A.l from by rw[← hA];exact xqk _ _ HGD.out)
     have HLA:=lH (show A.l.length≤16777216 from by rw[← hA];exact xvN _ _ HFD.out)
     have HCL:=lH (fun W (hW:Below w8.heap.size w8 W)=>xmd b (.slice ar rt.length cr) rt (xeh s X.lf X.ll) R8 W (HS8.out.brk.below hW HS8.out.brk.lt) (HE8.out W hW) HGD.out HFD.out (HX.out _ _) (by omega))
     rw[hA] at HCL
     clear hA HGD HFD HE8
     go_wp2_with fail
     refine(HT2.out _).mono ?_
     rintro x v9 ⟨rfl,hb⟩
     have HT:=lH (HS8.out.below hb)
     have HLE:=lH (HCL.out _ hb)
     clear hb HCL HT2 k4 k5
     go_wp2_with fail
     refine HLE.out.mono ?_
     rintro x w9 ⟨vl,R9,rfl,ho,hB,hI,hl9,hg⟩
     have HS9:=lH (HT.out.asked (Below.refl _ _) hg hB)
     have HEA:=lH ho.ensAt
     have HI:=lH hI
     clear hB hg ho hI HLE HT HS8
     have hlk8:=HS9.out.brk.look 8 (by omega)
     have hlk9:=HS9.out.brk.look 9 (by omega)
     have h8:∀ y,8≤y→y ∉ R8:=fun y hy hm=>by
      have:=xeN ((H8.out y).1 hm)
      simp only[List.length_cons,List.length_nil] at this
      omega
     have hd8:decide ((8:Int) ∈ R9)=A.lf:=by
      have:=HI.out 8
      rw[Bool.eq_iff_iff,decide_eq_true_iff,this]
      simp[h8 8 (by omega)]
     have hd9:decide ((9:Int) ∈ R9)=A.dp:=by
      have:=HI.out 9
      rw[Bool.eq_iff_iff,decide_eq_true_iff,this]
      simp[h8 9 (by omega)]
     rw[hd8] at hlk8
     rw[hd9] at hlk9
     clear hd8 hd9 h8
     obtain⟨al,lf,dp⟩:=A
     dsimp only at HC HGA HLA HEA HI hlk8 hlk9
     obtain⟨av,cv,rfl⟩:=xak HEA.out
     cases lf with
     | true =>
      rw[if_pos (by simp)] at HC
      go_wp2_with fail
      exact bodyPost_ret (results_none rfl _ _ _) rfl ⟨rfl,_,HS9.out.brk,fun x=>by rw[HI.out x,← HC.out,List.mem_append,H8.out x];exact xw9 _ x _ _,HS9.out.gr⟩
     | false =>
      cases dp with
      | true =>
       rw[if_pos (by simp)] at HC
       go_wp2_with fail
       exact bodyPost_ret (results_none rfl _ _ _) rfl ⟨rfl,_,HS9.out.brk,fun x=>by rw[HI.out x,← HC.out,List.mem_append,H8.out x];exact xw9 _ x _ _,HS9.out.gr⟩
      | false =>
       rw[if_neg (by simp)] at HC
       have hla:=HLA.out
       go_upto_region 12 with fail
       clear hlk8 hlk9
       have hd0:=Below.drew (Below.refl w9.heap.size w9)
       have hC0:=hd0
       obtain⟨⟨-,-,-,-,-,-,k6,k7⟩,-⟩:=xcT HS9.out.hd
       have NG:=lH (show some g≠some b from fun e=>by have:=Option.some.inj e;have:=HS9.out.ne;omega)
       refine wp_region_held_drew (S:=fun w'=>(w'.cell? ⟨g,6,none⟩=some (.int .u64 X.df)∧w'.cell? ⟨g,7,none⟩=some (.int .u64 X.dl))∧HAt w' g 93 X) (by kernel_rfl) ⟨⟨xaa hd0 k6,xaa hd0 k7⟩,HS9.out.hd.later hd0⟩ (fun hH0=>?_)
       refine tK 0 97 hH0 ?_
       refine tK 1 98 hH0 ?_
       refine xyt (i:=2) (d:=99) rfl rfl (xhp (by rfl) _ rfl _ rfl _ _ (fun w h=>h.2)) hH0 ?_
       try simp only[Act.put,zsA,zsB,zsC]
       refine tK 3 100 hH0 ?_
       refine tK 4 101 hH0 ?_
       refine tK 5 102 hH0 ?_
       refine wpAnyH_ready (rs:=[6]) (by kernel_rfl) (by simp) ?_
       refine AllReadyH.cons rfl (fun K hK=>?_) AllReadyH.nil
       go_simp
       refine(HT3.out _).mono ?_
       rintro e w1 ⟨rfl,hb⟩
       go_wp2_with fail
       refine hK.out _ _ (⟨⟨xaa hb hH0.1.1,xaa hb hH0.1.2⟩,hH0.2.later hb⟩) (fun hH1=>?_)
       have hC1:=hC0.trans (hb.mono hC0.size)
       clear hb hH0
       clear hK K
       try simp only[Act.put,zsA,zsB,zsC]
       refine wpAnyH_ready (rs:=[7]) (by kernel_rfl) (by simp) ?_
       refine AllReadyH.cons rfl (fun K hK=>?_) AllReadyH.nil
       go_simp
       refine(xjO b _ al X (xeh s X.df X.dl) R9 _ (HS9.out.brk.below hC1 HS9.out.brk.lt) (HEA.out.below hC1) HGA.out (by omega) (HX.out _ _) (by omega)).mono ?_
       rintro e w2 ⟨rfl,R',hBx,hmx,hgx⟩
       go_wp2_with fail
       refine hK.out _ _ (⟨⟨hgx.cell hH1.1.1 NG.out,hgx.cell hH1.1.2 NG.out⟩,hH1.2.grownBy hgx NG.out⟩) (fun hH2=>?_)
       clear hH1
       clear hK K
       try simp only[Act.put,zsA,zsB,zsC]
       refine wpAnyH_done (by kernel_rfl) ?_ _
       go_wp2_with fail
       have HF:=lH (HS9.out.asked hC1 hgx hBx)
       exact bodyPost_end (results_none rfl _ _ _) rfl ⟨rfl,_,HF.out.brk,fun x=>by rw[hmx x,HI.out x,← HC.out,List.mem_append,H8.out x];exact xyF _ _ x,HF.out.gr⟩
 ·rw[if_pos hz] at hC
  subst hC
  have hzn:(z != 0)=true:=by simpa using hz
  clear hz HE
  go_wp2_with (first|(refine xbl (by rfl) _ _ rfl _ rfl X rfl _ xae (by assumption) rfl ?_;intro wS HP)|fail)
  have HS0:=lH (show StE w wS b w1.heap.size X [] from ⟨HB.out.below (HP.2.2.1 _ _ HB2.out.2 HB2.out.1) HB.out.lt,HP.1,⟨HB.out.lt,HB2.out.2⟩,xbd (World.grownBy.refl _ _) (HP.2.2.1 _ _ HB2.out.2 HB2.out.1)⟩)
  clear HP HZ HB2 HB
  refine(xaZ b 1 true [] wS HS0.out.brk (by omega) (by unfold maxLen;simp)).mono ?_
  rintro x w2 ⟨rfl,hB,hg⟩
  have HS1:=lH (HS0.out.asked (Below.refl _ _) hg hB)
  clear hB hg HS0
  go_wp2_with fail
  exact bodyPost_ret (results_none rfl _ _ _) rfl ⟨rfl,_,HS1.out.brk,fun x=>by simp[xcW],HS1.out.gr⟩
theorem Own.mono {w:World} {B B':Nat} {v:Value} {l:List Int} (h:Own w B v l) (hb:B'≤B):Own w B' v l :=
 ⟨h.1,h.2.imp id fun⟨g,cap,cur,h1,h2,h3⟩=>⟨g,cap,cur,h1,Nat.le_trans hb h2,h3⟩⟩
def xeK (C:List Int) (w:World) (e:Ending) (w':World):Prop:=∃ a cap,e=.returned (.slice a C.length cap)∧Own w' w.heap.size (.slice a C.length cap) C∧Below w.heap.size w w'
theorem xcb (s:ByteArray) (bud:Int) (w:World) (hq:QTab w) (hs:s.size≤1000000) (hbu:-9223372036854775808≤bud∧bud≤9223372036854775807) :
  Calls Tryz.prog 7 #[.string s,.int .i64 bud] w (xeK (xbs s bud) w):=by
 have hmm:=@run_makeMap Tryz.prog
 have hb0:Below w.heap.size w (w.alloc (.map #[] 0)):=(Below.refl _ w).alloc (Nat.le_refl _) _
 have HG:Hid (∀ W,(w.alloc (.map #[] 0)).grownBy W (some w.heap.size)→Below w.heap.size w W):=lH (fun W hW=>hb0.grown hW hb0.size (fun k hk=>by cases hk;exact Nat.le_refl _))
 have HF:=lH (xq7 w.heap.size s bud (w.alloc (.map #[] 0)) (fun W hW=>hq.below (HG.out W hW)) (xbr.made w) hs hbu)
 obtain⟨C,hC⟩:∃ C,xbs s bud=C:=⟨_,rfl⟩
 have HU:=lH (xwY s bud)
 have HL:=lH (xkT s bud)
 rw[hC] at HF HU HL ⊢
 clear hq hb0 hC
 unfold xl5 at HF
 unfold xeK
 go_enter Tryz.func7,Tryz.ntmps7
 go_wp2_with fail
 refine HF.out.mono ?_
 rintro x w1 ⟨rfl,R,hB,hR,hg⟩
 have HB:=lH hB
 have HR:=lH hR
 have HW:=lH (HG.out w1 hg)
 clear hB hR hg HF HG
 go_wp2_with fail
 refine(xqi w.heap.size w1).mono ?_
 rintro x w2 ⟨rfl,rfl⟩
 have hb1:Below w1.heap.size w1 (w1.alloc (.cells #[.map (some w.heap.size)] 48)):=(Below.refl _ w1).alloc (Nat.le_refl _) _
 have hb2:Below w.heap.size w (w1.alloc (.cells #[.map (some w.heap.size)] 48)):=HW.out.alloc HW.out.size _
 have HS:=lH (xlQ w.heap.size R C w1.heap.size (w1.alloc (.cells #[.map (some w.heap.size)] 48)) (World.cell?_alloc_new _ _ _ 0) (HB.out.below hb1 HB.out.lt) HU.out.1 HR.out HL.out)
 have H2:=lH hb2
 clear hb1 hb2 HW HB HR HU HL
 go_wp2_with fail
 refine HS.out.mono ?_
 rintro x w3 ⟨v,rfl,ho,hb3⟩
 have ho2:Own w3 w.heap.size v C:=ho.mono H2.out.size
 obtain⟨a,cap,rfl⟩:=ho2.slice
 have HO:=lH (And.intro ho2 (H2.out.trans (hb3.mono H2.out.size)))
 clear ho ho2 hb3 HS H2
 go_wp2_with fail
 go_ret
 exact⟨a,cap,rfl,HO.out.1,HO.out.2⟩
theorem xeG (s:ByteArray) (bud:Int) (w:World) (hq:QTab w) (hs:s.size≤1000000) (hbu:-9223372036854775808≤bud∧bud≤9223372036854775807) :
  Calls Tryz.prog 9 #[.string s,.int .i64 bud] w fun e w'=>e=.returned (.bool (decide (xbs s bud=[])))∧Below w.heap.size w w':=by
 have HA:=lH (xcb s bud w hq hs hbu)
 have HL:=lH (xkT s bud)
 generalize xbs s bud=C at *
 unfold xeK at HA
 clear hq
 go_enter Tryz.func9,Tryz.ntmps9
 go_wp2_with fail
 refine HA.out.mono ?_
 rintro x w1 ⟨a,cap,rfl,ho,hb⟩
 have HB:=lH hb
 have hl:=HL.out
 have hz:((C.length:Int) == 0)=decide (C=[]):=by rw[Bool.eq_iff_iff];cases C <;> simp <;> omega
 clear ho hb HA
 go_wp2_with fail
 go_ret
 exact⟨rfl,HB.out⟩
theorem xCV:xbs arT 512=[]:=by kernel_rfl
theorem xCG:xbs (arT++xT) 512=[3]:=by kernel_rfl
theorem xCX:xbs arT 4=[6]:=by kernel_rfl
theorem xCZ:xbs { data:=#[] } 512=[1]:=by kernel_rfl
theorem xuQ:(arT++xT).size=136:=by kernel_rfl
theorem xvh {w:World} {B:Nat} {a:Option Addr} {cap:Nat} {l:List Int} (h:Own w B (.slice a l.length cap) l) (hl:0<l.length):∃ g,a=some ⟨g,0,none⟩∧B≤g∧g<w.heap.size∧∀ k,k<l.length→w.cell? ⟨g,k,none⟩=some (.int .u8 (gI l k)):=by
 rcases h.formU with ⟨e,-⟩|⟨g,cap',e,h1,h2,-⟩
 ·injection e with e1 e2 e3;omega
 ·injection e with e1 e2 e3
  subst e1 e3
  refine⟨g,rfl,h1,h2,fun k hk=>?_⟩
  have h1:=World.ownsRow.cellAt h k (by omega)
  rw[h1,List.getElem?_map,xhz l k hk]
  rfl
theorem xiJ {w:World} {B:Nat} {a:Option Addr} {cap:Nat} {x:Int} (h:Own w B (.slice a 1 cap) [x]):∃ g,a=some ⟨g,0,none⟩∧g<w.heap.size∧w.cell? ⟨g,0,none⟩=some (.int .u8 x):=by
 obtain⟨g,rfl,_,h2,h3⟩:=xvh (l:=[x]) h (by simp)
 exact⟨g,rfl,h2,h3 0 (by simp)⟩
theorem xc7 (w:World) (hq:QTab w):Calls Tryz.prog 6 #[] w fun e w'=>e=.returned (.bool true)∧Below w.heap.size w w':=by
 have HQ:=lH hq
 have HI:=lH (xxP w 0 xT 46)
 have HB0:=lH (xah w (.cells #[.int .u64 0,.string xT] 46))
 unfold xT at HI HB0
 have HK1:=lH (fun W hW=>xcb arT 512 W hW (by rw[xiD];omega) (by omega))
 have HK2:=lH (fun W hW=>xcb (arT++xT) 512 W hW (by rw[xuQ];omega) (by omega))
 have HK3:=lH (fun W hW=>xcb arT 4 W hW (by rw[xiD];omega) (by omega))
 have HK4:=lH (fun W hW=>xcb { data:=#[] } 512 W hW (by decide) (by omega))
 have HG1:=lH (fun W hW=>xeG arT 512 W hW (by rw[xiD];omega) (by omega))
 have HG4:=lH (fun W hW=>xeG { data:=#[] } 512 W hW (by decide) (by omega))
 rw[xCV] at HK1 HG1
 rw[xCG] at HK2
 rw[xCX] at HK3
 rw[xCZ] at HK4 HG4
 rw[decide_eq_true (show ([]:List Int)=[] from rfl)] at HG1
 rw[decide_eq_false (show ¬ ([1]:List Int)=[] by simp)] at HG4
 unfold xeK at HK1 HK2 HK3 HK4
 have hsz:=xiD
 have hsx:({ data:=#[120] }:ByteArray).size=1:=rfl
 unfold xT at HK2
 clear hq
 go_enter Tryz.func6,Tryz.ntmps6
 go_wp2_with fail
 refine(xCo _ _ HI.out).mono ?_
 rintro e w1 ⟨s1,rfl,hc1,hb1⟩
 obtain⟨a1,n1,p1,rfl⟩:=hc1.form
 have HB1:=lH (HB0.out.trans (hb1.mono HB0.out.size))
 have HC1:=lH hc1
 clear hb1 hc1 HI HB0
 have h1:=xah w1 (.cells #[.slice a1 n1 p1] 32)
 have HC2:=lH (And.intro (xbb w1 (.slice a1 n1 p1) 32) (And.intro (HC1.out.below h1) (HB1.out.trans (h1.mono HB1.out.size))))
 clear h1 HB1 HC1
 go_wp2_with fail
 generalize w1.alloc (.cells #[.slice a1 n1 p1] 32)=W1 at *
 generalize w1.heap.size=gc at *
 refine(xuZ _ _ (HQ.out.below HC2.out.2.2) HC2.out.2.1).mono ?_
 rintro e w2 ⟨rfl,hb2⟩
 have HB2:=lH (HC2.out.2.2.trans (hb2.mono HC2.out.2.2.size))
 clear hb2 HC2
 generalize arT=A at *
 go_wp2_with fail
 refine(HK2.out _ (HQ.out.below HB2.out)).mono ?_
 rintro e w3 ⟨a3,c3,rfl,ho,hb⟩
 have HB3:=lH (HB2.out.trans (hb.mono HB2.out.size))
 obtain⟨g3,rfl,hl3,q3⟩:=xiJ ho
 clear HB2 hb ho HK2
 dsimp only[List.length_cons,List.length_nil]
 go_wp2_with fail
 refine(HK3.out _ (HQ.out.below HB3.out)).mono ?_
 rintro e w4 ⟨a4,c4,rfl,ho,hb⟩
 have HB4:=lH (HB3.out.trans (hb.mono HB3.out.size))
 obtain⟨g4,rfl,hl4,q4⟩:=xiJ ho
 replace q3:=xaa hb q3
 clear HB3 hb ho HK3
 go_wp2_with fail
 refine(HK4.out _ (HQ.out.below HB4.out)).mono ?_
 rintro e w5 ⟨a5,c5,rfl,ho,hb⟩
 have HB5:=lH (HB4.out.trans (hb.mono HB4.out.size))
 obtain⟨g5,rfl,hl5,q5⟩:=xiJ ho
 replace q3:=xaa hb q3
 replace q4:=xaa hb q4
 clear HB4 hb ho HK4
 go_wp2_with fail
 refine(HG1.out _ (HQ.out.below HB5.out)).mono ?_
 rintro e w6 ⟨rfl,hb⟩
 have HB6:=lH (HB5.out.trans (hb.mono HB5.out.size))
 replace q3:=xaa hb q3
 replace q4:=xaa hb q4
 replace q5:=xaa hb q5
 clear HB5 hb HG1
 go_wp2_with fail
 refine(HK1.out _ (HQ.out.below HB6.out)).mono ?_
 rintro e w7 ⟨a7,c7,rfl,ho,hb⟩
 have HB7:=lH (HB6.out.trans (hb.mono HB6.out.size))
 replace q3:=xaa hb q3
 replace q4:=xaa hb q4
 replace q5:=xaa hb q5
 clear HB6 hb ho HK1
 go_wp2_with fail
 refine(HG4.out _ (HQ.out.below HB7.out)).mono ?_
 rintro e w8 ⟨rfl,hb⟩
 have HB8:=lH (HB7.out.trans (hb.mono HB7.out.size))
 clear HB7 hb q3 q4 q5 HG4
 go_wp2_with fail
 go_ret
 exact⟨rfl,HB8.out⟩
def PlanIn (x:Int × Int × ByteArray):Prop:=(-9223372036854775808≤x.1∧x.1≤9223372036854775807)∧U8 x.2.1∧x.2.2.size≤maxLen
theorem xmm:(Tryz.prog.info? 28).map (·.size)=some 3:=by kernel_rfl
theorem xlR {W:World} {g:Nat} {b k:Int} {s:ByteArray} (h:Box W g (xcM b k s)):(loadVar 28 ⟨g,0,none⟩).run Tryz.prog W=.ok (.agg (xcM b k s)) W:=by
 obtain⟨T,hT⟩:=h
 exact run_loadVar_row W g T _ _ (0,0) _ hT Tryz.underlying28 rfl xmm
structure StW (w W:World) (g5:Nat) (b k:Int) (t:ByteArray) (s:Value) (L:List It):Prop where
 pl:Box W w.heap.size (xcM b k t)
 o5:One W g5 s
 c5:ChS W s L
 bel:Below w.heap.size w W
theorem StW.below {w W X:World} {g5:Nat} {b k:Int} {t:ByteArray} {s:Value} {L:List It} (h:StW w W g5 b k t s L) (hb:Below W.heap.size W X):StW w X g5 b k t s L :=
 ⟨h.pl.below hb,h.o5.below hb,h.c5.below hb,h.bel.trans (hb.mono h.bel.size)⟩
theorem StW.facts {w W:World} {g5:Nat} {b k:Int} {t:ByteArray} {s:Value} {L:List It} (h:StW w W g5 b k t s L) :
  W.cell? ⟨w.heap.size,0,none⟩=some (.int .i64 b)∧W.cell? ⟨w.heap.size,1,none⟩=some (.int .u8 k)∧W.cell? ⟨w.heap.size,2,none⟩=some (.string t)∧W.cell? ⟨g5,0,none⟩=some s∧(loadVar 28 ⟨w.heap.size,0,none⟩).run Tryz.prog W=.ok (.agg (xcM b k t)) W :=
 ⟨by rw[h.pl.cell];rfl,by rw[h.pl.cell];rfl,by rw[h.pl.cell];rfl,h.o5.cell,xlR h.pl⟩
theorem xo5 (l:List ByteArray) (s:ByteArray):totF (xcp l s)≤totF l+s.size:=by
 unfold xcp;split
 ·rw[xda,xi5];omega
 ·omega
theorem xmq (L:List It):totF (xad L).2≤xar L:=by
 refine xie (M:=fun L=>totF (xad L).2≤xar L) (Nat.le_refl _) (fun L t ih=>?_) L
 rw[xhS,xbE]
 have h1:=xo5 (xad L).2 t.2
 have h2:xar [t]=t.2.size:=by simp[xar]
 show totF (xcp (xad L).2 t.2)≤_
 omega
theorem xpI (b:Int):xbs noB b=[1]:=by
 have h:(xcB (xb2 noB)).2≠0:=of_decide_eq_true (by kernel_rfl)
 unfold xbs
 rw[if_pos h]
theorem xpH {L:List It} {b k:Int} {s:ByteArray} (h:ckP b k s≠0):xcr L b k s=(noB,ckP b k s):=by
 unfold xcr
 rw[if_pos h]
theorem xvX (v:Value) (l:List It) (x:Int × Int × ByteArray) (m:Nat) (w:World) (hq:QTab w) (hv:ItsAt w v l) (hm:∀ e ∈ l,e.1<18446744073709551616∧e.2.size≤maxLen) (hx:PlanIn x) (hmo:m<256) :
  Calls Tryz.prog 4 #[v,.agg #[.int .i64 x.1,.int .u8 x.2.1,.string x.2.2],.int .u8 (m:Nat)] w fun e w'=>e=.returned (.bool true)∧Below w.heap.size w w':=by
 obtain⟨b,k,t⟩:=x
 obtain⟨xb,xk,xt⟩:=hx
 simp only at xb xk xt ⊢
 have HQ:=lH (fun W (hb:Below w.heap.size w W)=>hq.below hb)
 have hba:=xah w (.cells (xcM b k t) 28)
 have hbx:=xiB w (xcM b k t) 28
 have HOV:=lH (xub v l 80 4000 _ (hv.below hba) (fun e he=>(hm e he).2) (by omega) (by omega))
 have HOW:=lH (fun(hl:l.length≤10000)=>xyf v l _ (hv.below hba) hl (fun e he=>(hm e he).1) (fun e he=>(hm e he).2))
 have HB0:=lH (And.intro hbx hba)
 obtain⟨ov,hov⟩:∃ ov,xj4 l 80 4000=ov:=⟨_,rfl⟩
 rw[hov] at HOV
 have c2:(w.alloc (.cells (xcM b k t) 28)).cell? ⟨w.heap.size,2,none⟩=some (.string t):=by rw[hbx.cell];rfl
 unfold xcM at c2 HOV HOW HB0
 clear hq hv hba hbx hm
 cases ov with
 | true =>
  clear hov
  go_enter Tryz.func4,Tryz.ntmps4
  go_wp2_with fail
  refine HOV.out.mono ?_
  rintro e w1 ⟨rfl,rfl⟩
  go_wp2_with fail
  refine(xc7 _ (HQ.out _ HB0.out.2)).mono ?_
  rintro e wz ⟨rfl,hbz⟩
  have HBZ:=lH (Below.trans HB0.out.2 (hbz.mono (Below.size HB0.out.2)))
  clear hbz
  go_wp2_with fail
  go_ret
  exact⟨rfl,HBZ.out⟩
 | false =>
  obtain⟨bl,ll⟩:=xuA hov
  by_cases h3:1000<t.size
  ·have e3:decide (1000<(t.size:Int))=true:=decide_eq_true (by omega)
   clear hov h3 bl ll
   go_enter Tryz.func4,Tryz.ntmps4
   go_wp2_with fail
   refine HOV.out.mono ?_
   rintro e w1 ⟨rfl,rfl⟩
   go_wp2_with fail
   refine(xc7 _ (HQ.out _ HB0.out.2)).mono ?_
   rintro e wz ⟨rfl,hbz⟩
   have HBZ:=lH (Below.trans HB0.out.2 (hbz.mono (Below.size HB0.out.2)))
   clear hbz
   go_wp2_with fail
   go_ret
   exact⟨rfl,HBZ.out⟩
  have e3:decide (1000<(t.size:Int))=false:=decide_eq_false (by omega)
  clear hov
  go_enter Tryz.func4,Tryz.ntmps4
  go_wp2_with fail
  refine HOV.out.mono ?_
  rintro e w1 ⟨rfl,hw1⟩
  subst hw1
  generalize w.alloc (.cells #[.int .i64 b,.int .u8 k,.string t] 28)=w1 at *
  go_wp2_with fail
  refine(HOW.out (by omega)).mono ?_
  rintro e w2 ⟨s,d,rfl,hch,hd,hb2⟩
  obtain⟨a5,n5,p5,rfl⟩:=hch.form
  have hal:(xxp l).length≤80:=by have:=xtk l [];unfold xxp;simp at this;omega
  have hab:xar (xxp l)≤4000:=by have:=xjD l [];unfold xxp;simp[xar] at this;omega
  generalize hac:xxp l=L at *
  have b5:=xah w2 (.cells #[.slice a5 n5 p5] 32)
  have hx2:=hb2.trans (b5.mono hb2.size)
  have HS:=lH (show StW w _ w2.heap.size b k t (.slice a5 n5 p5) L from ⟨HB0.out.1.below hx2,xbb w2 (.slice a5 n5 p5) 32,hch.below b5,HB0.out.2.trans (hx2.mono HB0.out.2.size)⟩)
  have HG:=lH hch.good
  have hd2:=hd.below b5
  obtain⟨ad,cd,rfl,_⟩:=hd2
  have hcl:=fun b'=>xmz (b:=b) (k:=k) (b':=b') (s:=t) HG.out (by omega) xk (by omega) (by have:=xmq L;omega)
  have hno:=xpH (L:=L) (b:=b) (k:=k) (s:=t)
  have hbd:ckP b k t=0→512≤b∧b≤16257:=fun h=>by
   unfold ckP at h
   split at h
   ·omega
   ·omega
  have HCL:=lH hcl
  have HNO:=lH hno
  have HBD:=lH hbd
  clear hch hd hb2 b5 hx2 HOV HOW hac bl ll HB0 c2 hcl hno hbd
  go_upto_region 4 with fail
  generalize w2.alloc (.cells #[.slice a5 n5 p5] 32)=w3 at *
  generalize w2.heap.size=g5 at *
  obtain⟨r0,r1,r2,q5,lp⟩:=HS.out.facts
  have HPR:=lH (xg8 (.slice a5 n5 p5) L b k t w3 (HQ.out _ HS.out.bel) HS.out.c5 (by omega) xk xb (by omega))
  unfold xcM at lp HPR
  by_cases hck:ckP b k t=0
  ·obtain⟨y,hp,hys,-⟩:=HCL.out b hck (Int.le_refl b)
   rw[hp] at HPR
   obtain⟨b0,b1⟩:=HBD.out hck
   have HC:=lH (fun b' (h:b≤b')=>show xbs y b'=[] from by
    obtain⟨y',hp',_,hc'⟩:=HCL.out b' hck h
    rw[hp] at hp'
    obtain⟨rfl,-⟩:=Prod.mk.injEq .. ▸ hp'
    exact hc')
   have HG1:=lH (fun W hW=>xeG y b W hW hys (by omega))
   have HK1:=lH (fun W hW=>xcb y (b+(m:Int)) W hW hys (by omega))
   rw[HC.out _ (Int.le_refl b),decide_eq_true rfl] at HG1
   rw[HC.out _ (show b≤b+(m:Int) by omega)] at HK1
   unfold xeK at HK1
   have hw1:IntKind.i64.wrap (m:Int)=(m:Int):=by rw[IntKind.wrap_i64];omega
   have hw2:IntKind.i64.wrap (b+(m:Int))=b+(m:Int):=by rw[IntKind.wrap_i64];omega
   clear hck HCL HNO HBD HC hp
   go_wp2_with fail
   refine HPR.out.mono ?_
   rintro e w4 ⟨rfl,hb4⟩
   have HS4:=lH (HS.out.below hb4)
   clear hb4 HS HPR r0 r1 r2 q5 lp
   obtain⟨r0,r1,r2,q5,-⟩:=HS4.out.facts
   go_wp2_with fail
   refine(HG1.out _ (HQ.out _ HS4.out.bel)).mono ?_
   rintro e w5 ⟨rfl,hb5⟩
   have HS5:=lH (HS4.out.below hb5)
   clear hb5 HS4 HG1 r0 r1 r2 q5
   obtain⟨r0,r1,r2,q5,-⟩:=HS5.out.facts
   go_wp2_with fail
   refine(HK1.out _ (HQ.out _ HS5.out.bel)).mono ?_
   rintro e w6 ⟨a6,c6,rfl,-,hb6⟩
   have HS6:=lH (HS5.out.below hb6)
   clear hb6 HS5 HK1 r0 r1 r2 q5
   go_wp2_with fail
   refine(xc7 _ (HQ.out _ HS6.out.bel)).mono ?_
   rintro e wz ⟨rfl,hbz⟩
   have HBZ:=lH (Below.trans HS6.out.bel (hbz.mono (Below.size HS6.out.bel)))
   clear hbz
   go_wp2_with fail
   go_ret
   exact⟨rfl,HBZ.out⟩
  ·rw[HNO.out hck] at HPR
   have hne:(ckP b k t != 0)=true:=by simpa using hck
   have HG1:=lH (fun W hW=>xeG noB b W hW (show noB.size≤1000000 by decide) xb)
   rw[xpI,decide_eq_false (by simp)] at HG1
   generalize ckP b k t=cz at *
   clear hck HCL HNO HBD
   go_wp2_with fail
   refine HPR.out.mono ?_
   rintro e w4 ⟨rfl,hb4⟩
   have HS4:=lH (HS.out.below hb4)
   clear hb4 HS HPR r0 r1 r2 q5 lp
   obtain⟨r0,r1,r2,q5,-⟩:=HS4.out.facts
   go_wp2_with fail
   refine(HG1.out _ (HQ.out _ HS4.out.bel)).mono ?_
   rintro e w5 ⟨rfl,hb5⟩
   have HS5:=lH (HS4.out.below hb5)
   clear hb5 HS4 HG1 r0 r1 r2 q5
   go_wp2_with fail
   refine(xc7 _ (HQ.out _ HS5.out.bel)).mono ?_
   rintro e wz ⟨rfl,hbz⟩
   have HBZ:=lH (Below.trans HS5.out.bel (hbz.mono (Below.size HS5.out.bel)))
   clear hbz
   go_wp2_with fail
   go_ret
   exact⟨rfl,HBZ.out⟩
end Go.Proofs.YtjkgkmmkehnggaaGreatDoor
namespace Go.Proofs.YtjkgkmmkehnggaaGreatDoor
set_option linter.unusedVariables false
set_option linter.unusedSimpArgs false
open Go.ChangeShapes Go.WideShapes Go.ChangeAt Go.RowKit Go.Joins Go.Deep
set_option maxRecDepth 100000
theorem xoV:Tryz.prog.cellsOf 28=3:=by kernel_rfl
theorem xrd {H:Type} {enc:TypeId × Value→H} {W:World} {base n:Nat} {spare:Nat→Bool} {held:Bool} {cs:List Value} {z:DataW H × List MemPlace}
  (h:DataW.trod enc Tryz.prog W base spare held n 28 cs=some z):∃ e:Int × Int × ByteArray,cs=[.int .i64 e.1,.int .u8 e.2.1,.string e.2.2]∧PlanIn e:=by
 have cu:Tryz.prog.cellsOf 3=1:=by kernel_rfl
 have cb:Tryz.prog.cellsOf 5=1:=by kernel_rfl
 have cw:Tryz.prog.cellsOf 9=1:=by kernel_rfl
 obtain⟨xs,k,_,_,hl,hxl,hfs⟩:=DataW.trod_struct Tryz.underlying28 h
 rw[xoV] at hl
 match cs,hl,xs,hxl,hfs with
 | [x0,x1,x2],_,[y0,y1,y2],_,hfs =>
  have g0:=hfs 0 _ rfl
  have g1:=hfs 1 _ rfl
  have g2:=hfs 2 _ rfl
  simp[cu,cb,cw] at g0 g1 g2
  obtain⟨a0,e0,_,w0⟩:=DataW.trod_int Tryz.underlying3 g0
  obtain⟨a1,e1,_,w1⟩:=DataW.trod_int Tryz.underlying5 g1
  obtain⟨a2,e2,_,w2⟩:=DataW.trod_string Tryz.underlying9 g2
  simp at e0 e1 e2
  subst e0 e1 e2
  have h0:=bounds_i64 w0
  have h1:=bounds_u8 w1
  exact⟨⟨a0,a1,a2⟩,rfl,⟨by simp only;omega,by unfold U8;simp only;omega,w2⟩⟩
theorem plan_opened {H:Type} {enc:TypeId × Value→H} {W:World} {base b0:Nat} {r:Reach} {spare:Nat→Bool} {held:Bool} {v:Value} {d:DataW H} {p:List MemPlace}
  (hv:Value.okWide Tryz.prog W r b0 28 v) (h:DataW.Trod enc Tryz.prog W base spare held 28 v d p) :
  ∃ e:Int × Int × ByteArray,v=.agg #[.int .i64 e.1,.int .u8 e.2.1,.string e.2.2]∧PlanIn e:=by
 obtain⟨cs,rfl,hsz⟩:=okWide_struct Tryz.underlying28 hv
 obtain⟨fuel,hf⟩:=h
 obtain⟨e,he,hm⟩:=xrd hf
 refine⟨e,?_,hm⟩
 obtain⟨l⟩:=cs
 have he':l=[.int .i64 e.1,.int .u8 e.2.1,.string e.2.2]:=he
 rw[he']
end Go.Proofs.YtjkgkmmkehnggaaGreatDoor
