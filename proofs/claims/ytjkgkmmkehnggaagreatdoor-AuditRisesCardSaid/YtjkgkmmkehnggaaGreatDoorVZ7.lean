/- Wr Ws Zc Zd Ze Zf Wt Wu. -/
import Derived.Test.YtjkgkmmkehnggaaGreatDoorVZ6
import Derived.Test.YtjkgkmmkehnggaaGreatDoorVZ3
import Derived.Test.YtjkgkmmkehnggaaGreatDoorVa7
import Derived.Test.YtjkgkmmkehnggaaGreatDoorVc5
namespace Go.Proofs.YtjkgkmmkehnggaaGreatDoor
set_option linter.unusedVariables false
set_option linter.unusedSimpArgs false
open Go.RowKit Go.Maps
set_option maxRecDepth 100000
theorem yieldsIf_headA {ops:Array Oper} {S:World→Prop} {op:Oper} {a:Act} (hw:Region.wanted op (yielded ops a.tmps)=true) (x:Operand) (ho:op.op=.load 93 x)
  (g:Nat) (hx:a.eval x=.pointer (some ⟨g,0,none⟩)) (T:TypeId) (h:Hd) (hS:∀ w,S w→HAt w g T h):YieldsIf Tryz.prog ops S op (.agg (cH h)) a :=
 .inl ⟨hw,fun w hw'=>by
  unfold execOp
  simp only[ho,hx,Instr.loadAt,Instr.sureAddr,Sem.run_bind,Sem.run_pure,Result.andThen_ok,run_loadVar_row w g T 93 (cH h) (0,0) _ (hS w hw') Tryz.underlying93 rfl head_size]⟩
theorem mem_front (x:Int) (c0 c1 c2 c3 c4 c5:Bool):x ∈ addR c5 7 (addR c4 6 (addR c3 5 (addR c2 4 (addR c1 3 (addR c0 2 [])))))↔x ∈ tellR 2 [!c0,!c1,!c2,!c3,!c4,!c5]:=by
 rw[mem_addR,mem_addR,mem_addR,mem_addR,mem_addR,mem_addR,mem_tellR,mem_tellR,mem_tellR,mem_tellR,mem_tellR,mem_tellR]
 simp only[tellR,List.not_mem_nil,false_or,or_false,Bool.not_eq_false',show (2:Int)+1=3 from rfl,show (3:Int)+1=4 from rfl,show (4:Int)+1=5 from rfl,show (5:Int)+1=6 from rfl,show (6:Int)+1=7 from rfl]
 simp only[or_assoc]
theorem dec_ok (l:List Int) (y:Hd) (h:decH l=(y,0)):127≤l.length∧l.take 7=mgH∧l.getD 7 0=3∧l.getD 96 0≤1∧y=telH l∧ckH y=0:=by
 unfold decH at h
 split at h
 ·simp at h
 split at h
 ·simp at h
 split at h
 ·simp at h
 split at h
 ·simp at h
 split at h
 ·obtain⟨e,-⟩:=Prod.mk.injEq .. ▸ h
  subst e
  refine⟨by omega,?_,?_,by omega,rfl,by assumption⟩
  ·rename_i h1 _ _ _;exact Classical.not_not.1 h1
  ·rename_i h1 _ _;exact Classical.not_not.1 h1
 ·obtain⟨-,e⟩:=Prod.mk.injEq .. ▸ h
  contradiction
theorem HAt.grownBy {W X:World} {g:Nat} {T:TypeId} {h:Hd} {row:Option Nat} (hh:HAt W g T h) (hg:W.grownBy X row) (hn:some g≠row):HAt X g T h:=(hg.block g hh.lt hn).trans hh
theorem askA_good (d:ByteArray) (l:List En) (hg:GoodL l):GoodL (askA d l).l:=by rw[← askK_all];exact askK_good d l hg _ (Nat.le_refl _)
theorem askA_few (d:ByteArray) (l:List En) (h:l.length≤4096):(askA d l).l.length≤16777216:=by
 rw[← askK_all]
 have:=askK_few d l l.length (Nat.le_refl _)
 omega
theorem mem_lv (P:Prop) (x:Int) (a b:Bool):(P∨(x=8∧a=true)∨(x=9∧b=true))↔P∨x ∈ tellR 8 [!a,!b]:=by rw[mem_tellR,mem_tellR];simp[tellR]
theorem mem_lvf (P Q:Prop) (x:Int):((P∨(x=8∧false=true)∨(x=9∧false=true))∨Q)↔P∨Q:=by simp
theorem dec_head {s:ByteArray} {X:Hd} (h:decH (blCc s)=(X,0)):MayH X∧SecsB X=true:=by
 obtain⟨h1,_,_,_,h5,h6⟩:=dec_ok _ _ h
 have hs:127≤s.size:=by rw[show (blCc s).length=s.size by simp[blCc]] at h1;exact h1
 rw[tel_telB s hs] at h5
 refine⟨by rw[h5];exact may_telB s hs,?_⟩
 unfold ckH at h6
 split at h6
 ·rename_i h;exact h
 ·omega
theorem sec_cells {W:World} {g:Nat} {T:TypeId} {X:Hd} (h:HAt W g T X):(W.cell? ⟨g,0,none⟩=some (.int .u64 X.rf)∧W.cell? ⟨g,1,none⟩=some (.int .u64 X.rl)∧W.cell? ⟨g,2,none⟩=some (.int .u64 X.mf)∧W.cell? ⟨g,3,none⟩=some (.int .u64 X.ml)∧W.cell? ⟨g,4,none⟩=some (.int .u64 X.lf)∧W.cell? ⟨g,5,none⟩=some (.int .u64 X.ll)∧W.cell? ⟨g,6,none⟩=some (.int .u64 X.df)∧W.cell? ⟨g,7,none⟩=some (.int .u64 X.dl))∧W.cell? ⟨g,11,none⟩=some (.bool X.cl)∧W.cell? ⟨g,12,none⟩=some (.int .u8 X.inn)∧W.cell? ⟨g,13,none⟩=some (.int .u8 X.out) :=
 ⟨⟨at0 h,at1 h,at2 h,at3 h,at4 h,at5 h,at6 h,at7 h⟩,at11 h,at12 h,at13 h⟩
def FileEnd (b:Nat) (C:List Int) (w:World) (e:Ending) (w':World):Prop:=e=.returned (.tuple #[])∧∃ R,BrkAt w' b R∧(∀ x,x ∈ R↔x ∈ C)∧w.grownBy w' (some b)
set_option maxHeartbeats 16000000 in
theorem afile_any (b:Nat) (s:ByteArray) (bud:Int) (w:World) (hq:∀ W,w.grownBy W (some b)→QTab W) (hB:BrkAt w b []) (hs:s.size≤1000000) (hbu:-9223372036854775808≤bud∧bud≤9223372036854775807) :
  Calls Tryz.prog 14 #[.map (some b),.string s,.int .i64 bud] w (FileEnd b (checkA s bud) w):=by
 have HQ:=Lib.hid hq
 have HB:=Lib.hid hB
 have HD:=Lib.hid (decode_any s w (by unfold maxLen;omega))
 have hw5:IntKind.u64.wrap (s.size:Int)=(s.size:Int):=by rw[IntKind.wrap_u64];omega
 unfold FileEnd
 obtain⟨E,hE⟩:∃ E,decH (blCc s)=E:=⟨_,rfl⟩
 rw[hE] at HD
 obtain⟨X,z⟩:=E
 dsimp only at HD
 obtain⟨C,hC⟩:∃ C,checkA s bud=C:=⟨_,rfl⟩
 rw[hC]
 unfold checkA at hC
 rw[hE] at hC
 have HE:=Lib.hid hE
 clear hq hB hE
 go_enter Tryz.func14,Tryz.ntmps14
 go_wp2_with fail
 refine HD.out.mono ?_
 rintro x w1 ⟨rfl,hb1⟩
 have HZ:HAt (w1.alloc (.cells #[.int .u64 0,.int .u64 0,.int .u64 0,.int .u64 0,.int .u64 0,.int .u64 0,.int .u64 0,.int .u64 0,.int .u64 0,.int .u64 0,.int .u64 0,.bool false,.int .u8 0,.int .u8 0,.int .u8 0,.int .i64 0,.int .i64 0,.int .i64 0,.int .i64 0,.int .i64 0,.int .i64 0,.int .i64 0,.int .i64 0,.int .i64 0] 93)) w1.heap.size 93 zeroH:=HAt.zero w1 _
 have hb2:Below w.heap.size w (w1.alloc (.cells #[.int .u64 0,.int .u64 0,.int .u64 0,.int .u64 0,.int .u64 0,.int .u64 0,.int .u64 0,.int .u64 0,.int .u64 0,.int .u64 0,.int .u64 0,.bool false,.int .u8 0,.int .u8 0,.int .u8 0,.int .i64 0,.int .i64 0,.int .i64 0,.int .i64 0,.int .i64 0,.int .i64 0,.int .i64 0,.int .i64 0,.int .i64 0] 93)):=hb1.alloc hb1.size _
 have HB2:=Lib.hid (And.intro hb2 hb1.size)
 clear hb1 hb2 HD
 by_cases hz:z=0
 ·subst hz
  rw[if_neg (by simp)] at hC
  obtain⟨hm,hsb⟩:=dec_head HE.out
  obtain⟨n0,n1,n2,n3⟩:=secs_bd hsb
  have hmm:=hm
  unfold MayH U64 at hmm
  have HLD:=Lib.hid (fun W=>laid_any X (s.size:Int) W hm)
  have HTG:=Lib.hid (fun W=>atight_any X (s.size:Int) W hm hsb)
  have HT0:=Lib.hid (fun W=>atext_any s X.rf X.rl W hs (by omega) (by omega) n0)
  have HT1:=Lib.hid (fun W=>atext_any s X.mf X.ml W hs (by omega) (by omega) n1)
  have HT2:=Lib.hid (fun W=>atext_any s X.lf X.ll W hs (by omega) (by omega) n2)
  have HT3:=Lib.hid (fun W=>atext_any s X.df X.dl W hs (by omega) (by omega) n3)
  have hx:∀ f l,(txtA s f l).size≤1000000:=fun f l=>by unfold txtA;rw[ByteArray.size_extract];omega
  have HX:=Lib.hid hx
  have HOB:=Lib.hid (fun W hq=>aobj_any (txtA s X.mf X.ml) W hq (hx _ _))
  have HDC:=Lib.hid (fun W=>pdecD_any (txtA s X.rf X.rl) W (by have:=hx X.rf X.rl;unfold maxLen;omega))
  unfold bodyA frontA at hC
  obtain⟨D,hD⟩:∃ D,rootA X s=D:=⟨_,rfl⟩
  have hDD:decD (txtA s X.rf X.rl).data.toList=D:=hD
  rw[hDD] at HDC
  have HGD:=Lib.hid (show GoodL D.1 from by rw[← hDD];exact dec_good _)
  have HFD:=Lib.hid (show D.1.length≤4096 from by rw[← hDD];exact decD_few _)
  have hbk:backA X s=(if ((askA (txtA s X.lf X.ll) D.1).lf || (askA (txtA s X.lf X.ll) D.1).dp)=true then tellR 8 [!(askA (txtA s X.lf X.ll) D.1).lf,!(askA (txtA s X.lf X.ll) D.1).dp] else tellR 10 (goodR X (askA (txtA s X.lf X.ll) D.1).l (txtA s X.df X.dl))):=by
   unfold backA;rw[hD]
  rw[hbk,hD] at hC
  unfold DecEnd at HDC
  obtain⟨L,hL⟩:∃ L,laidB X (s.size:Int)=L:=⟨_,rfl⟩
  obtain⟨TT,hT⟩:∃ TT,tightA X (s.size:Int)=TT:=⟨_,rfl⟩
  obtain⟨ob,hob⟩:∃ ob,isOb (takeV (bI (txtA s X.mf X.ml))).1=ob:=⟨_,rfl⟩
  rw[hL,hT,hob] at hC
  rw[hL] at HLD
  rw[hT] at HTG
  rw[hob] at HOB
  obtain⟨c0,hc0⟩:∃ c,(L != 0)=c:=⟨_,rfl⟩
  obtain⟨c2,hc2⟩:∃ c,(!(decide (X.inn=1) && (decide (X.out=1) && X.cl)))=c:=⟨_,rfl⟩
  obtain⟨c4,hc4⟩:∃ c,(!budA X bud)=c:=⟨_,rfl⟩
  obtain⟨c5,hc5⟩:∃ c,(D.2.2 != 0)=c:=⟨_,rfl⟩
  have hfr:[decide (L=0),TT,decide (X.inn=1) && (decide (X.out=1) && X.cl),ob,budA X bud,decide (D.2.2=0)]=[!c0,!(!TT),!c2,!(!ob),!c4,!c5]:=by
   rw[← hc0,← hc2,← hc4,← hc5]
   simp only[Bool.not_not,bne,Bool.not_not]
   rw[show decide (L=0)=(L == 0) by rw[Bool.eq_iff_iff];simp,show decide (D.2.2=0)=(D.2.2 == 0) by rw[Bool.eq_iff_iff];simp]
  rw[hfr] at hC
  have HMF:=Lib.hid (fun x=>mem_front x c0 (!TT) c2 (!ob) c4 c5)
  have HC:=Lib.hid hC
  have HC2:=Lib.hid hc2
  have HC4:=Lib.hid hc4
  have HM:=Lib.hid hmm
  clear hC hc2 hc4 hfr hbk hDD hD hL hT hob hx hm hsb hmm n0 n1 n2 n3
  have HZZ:=HZ
  go_wp2_with (first|(refine store_head (by rfl) _ _ rfl _ rfl X rfl _ zeroH (by assumption) rfl ?_;intro wS HP)|fail)
  have HS0:=Lib.hid (show StE w wS b w1.heap.size X [] from ⟨HB.out.below (HP.2.2.1 _ _ HB2.out.2 HB2.out.1) HB.out.lt,HP.1,⟨HB.out.lt,HB2.out.2⟩,grown_below (World.grownBy.refl _ _) (HP.2.2.1 _ _ HB2.out.2 HB2.out.1)⟩)
  clear HP HZ HZZ HB2 HB HE
  generalize w1.heap.size=g at *
  refine(ask_any b 1 false [] wS HS0.out.brk (by omega) (by unfold maxLen;simp)).mono ?_
  rintro x w2 ⟨rfl,hB,hg⟩
  have HS1:=Lib.hid (show StE w w2 b g X [] from HS0.out.asked (Below.refl _ _) hg hB)
  clear hB hg HS0
  obtain⟨R2,hR2⟩:∃ R:List Int,R=[]:=⟨_,rfl⟩
  rw[← hR2] at HS1
  have hl2:R2.length≤0:=by rw[hR2];simp
  have HS2:=HS1
  have HR2:=Lib.hid hR2
  clear hR2 HS1
  have hHH:=HS2.out.hd
  go_wp2_with (first|(refine load_head (by rfl) _ rfl _ rfl _ X (by assumption) ?_)|fail)
  refine(HLD.out _).mono ?_
  rintro x v2 ⟨rfl,hb⟩
  have HT:=Lib.hid (HS2.out.below hb)
  clear hb hHH HS2
  have HA:=Lib.hid (ask_any b 2 c0 R2 v2 HT.out.brk (by omega) (by unfold maxLen;omega))
  go_wp2_with fail
  refine HA.out.mono ?_
  rintro x w3 ⟨rfl,hB,hg⟩
  have HS3:=Lib.hid (HT.out.asked (Below.refl _ _) hg hB)
  have hl3:(addR c0 2 R2).length≤1:=by have:=addR_len c0 2 R2;omega
  clear hB hg HA
  obtain⟨R3,hR3⟩:∃ R,addR c0 2 R2=R:=⟨_,rfl⟩
  rw[hR3] at HS3 hl3
  have HR3:=Lib.hid hR3
  clear hR3
  have hHH:=HS3.out.hd
  clear HT hc0
  go_wp2_with (first|(refine load_head (by rfl) _ rfl _ rfl _ X (by assumption) ?_)|fail)
  refine(HTG.out _).mono ?_
  rintro x v3 ⟨rfl,hb⟩
  have HT:=Lib.hid (HS3.out.below hb)
  clear hb hHH HS3
  have HA:=Lib.hid (ask_any b 3 (!TT) R3 v3 HT.out.brk (by omega) (by unfold maxLen;omega))
  go_wp2_with fail
  refine HA.out.mono ?_
  rintro x w4 ⟨rfl,hB,hg⟩
  have HS4:=Lib.hid (HT.out.asked (Below.refl _ _) hg hB)
  have hl4:(addR (!TT) 3 R3).length≤2:=by have:=addR_len (!TT) 3 R3;omega
  clear hB hg HA
  obtain⟨R4,hR4⟩:∃ R,addR (!TT) 3 R3=R:=⟨_,rfl⟩
  rw[hR4] at HS4 hl4
  have HR4:=Lib.hid hR4
  clear hR4
  clear HT HLD HTG
  go_upto_region 5 with fail
  go_cut [] from 12 to 104 (fun wx=>Hid (StE w wx b g X (addR c2 4 R4)))
  case first =>
   obtain⟨-,k11,k12,k13⟩:=sec_cells HS4.out.hd
   have HA:=Lib.hid (fun c=>ask_any b 4 c R4 w4 HS4.out.brk (by omega) (by unfold maxLen;omega))
   by_cases g1:X.inn=1
   ·have t1:(X.inn != 1)=false:=by simpa using g1
    by_cases g2:X.out=1
    ·have t2:(X.out != 1)=false:=by simpa using g2
     have HV:Hid ((!X.cl)=c2):=Lib.hid (by rw[← HC2.out];simp[g1,g2])
     clear g1 g2
     go_wp2_with fail
     refine(HA.out _).mono ?_
     rintro x w5 ⟨rfl,hB,hg⟩
     have HSX:=Lib.hid (HS4.out.asked (Below.refl _ _) hg hB)
     rw[HV.out] at HSX
     clear hB hg
     go_wp2_with fail
     go_meet
     case rel=>exact HSX
    ·have t2:(X.out != 1)=true:=by simpa using g2
     have HV:Hid (true=c2):=Lib.hid (by rw[← HC2.out];simp[g1,g2])
     clear g1 g2
     go_wp2_with fail
     refine(HA.out _).mono ?_
     rintro x w5 ⟨rfl,hB,hg⟩
     have HSX:=Lib.hid (HS4.out.asked (Below.refl _ _) hg hB)
     rw[HV.out] at HSX
     clear hB hg
     go_wp2_with fail
     go_meet
     case rel=>exact HSX
   ·have t1:(X.inn != 1)=true:=by simpa using g1
    have HV:Hid (true=c2):=Lib.hid (by rw[← HC2.out];simp[g1])
    clear g1
    go_wp2_with fail
    refine(HA.out _).mono ?_
    rintro x w5 ⟨rfl,hB,hg⟩
    have HSX:=Lib.hid (HS4.out.asked (Below.refl _ _) hg hB)
    rw[HV.out] at HSX
    clear hB hg
    go_wp2_with fail
    go_meet
    case rel=>exact HSX
  case rest =>
   rename_i K hK
   refine hK _ _ ?_
   clear hK K
   have HS5:=hcut
   clear hcut HS4
   generalize wc=w5 at *
   have hl5:(addR c2 4 R4).length≤3:=by have:=addR_len c2 4 R4;omega
   obtain⟨R5,hR5⟩:∃ R,addR c2 4 R4=R:=⟨_,rfl⟩
   rw[hR5] at HS5 hl5
   have HR5:=Lib.hid hR5
   clear hR5
   obtain⟨⟨-,-,k2,k3,-⟩,-⟩:=sec_cells HS5.out.hd
   go_wp2_with fail
   refine(HT1.out _).mono ?_
   rintro x v5 ⟨rfl,hb⟩
   have HT:=Lib.hid (HS5.out.below hb)
   have HO:=Lib.hid (HOB.out _ (HQ.out _ HT.out.gr))
   clear hb HS5 k2 k3
   go_wp2_with fail
   refine HO.out.mono ?_
   rintro x v6 ⟨rfl,hb⟩
   have HTT:=Lib.hid (HT.out.below hb)
   clear hb HT HO
   have HA:=Lib.hid (ask_any b 5 (!ob) R5 v6 HTT.out.brk (by omega) (by unfold maxLen;omega))
   go_wp2_with fail
   refine HA.out.mono ?_
   rintro x w6 ⟨rfl,hB,hg⟩
   have HS6:=Lib.hid (HTT.out.asked (Below.refl _ _) hg hB)
   have hl6:(addR (!ob) 5 R5).length≤4:=by have:=addR_len (!ob) 5 R5;omega
   clear hB hg HA
   obtain⟨R6,hR6⟩:∃ R,addR (!ob) 5 R5=R:=⟨_,rfl⟩
   rw[hR6] at HS6 hl6
   have HR6:=Lib.hid hR6
   clear hR6
   clear HTT HT1 HOB
   go_upto_region 7 with fail
   go_cut [] from 12 to 104 (fun wx=>Hid (StE w wx b g X (addR c4 6 R6)))
   case first =>
    obtain⟨⟨-,k1,-⟩,-⟩:=sec_cells HS6.out.hd
    have HA:=Lib.hid (fun c=>ask_any b 6 c R6 w6 HS6.out.brk (by omega) (by unfold maxLen;omega))
    by_cases g1:bud<0
    ·have t1:decide (bud<0)=true:=decide_eq_true g1
     have HV:Hid (true=c4):=Lib.hid (by rw[← HC4.out];unfold budA;simp;omega)
     clear g1
     go_wp2_with fail
     refine(HA.out _).mono ?_
     rintro x w7 ⟨rfl,hB,hg⟩
     have HSX:=Lib.hid (HS6.out.asked (Below.refl _ _) hg hB)
     rw[HV.out] at HSX
     clear hB hg
     go_wp2_with fail
     go_meet
     case rel=>exact HSX
    ·have t1:decide (bud<0)=false:=decide_eq_false g1
     have hwb:IntKind.u64.wrap bud=bud:=by rw[IntKind.wrap_u64];omega
     have HV:Hid (decide (bud<X.rl)=c4):=Lib.hid (by rw[← HC4.out];unfold budA;rw[decide_eq_true (show 0≤bud by omega),Bool.true_and,Bool.eq_iff_iff];simp)
     clear g1
     go_wp2_with fail
     refine(HA.out _).mono ?_
     rintro x w7 ⟨rfl,hB,hg⟩
     have HSX:=Lib.hid (HS6.out.asked (Below.refl _ _) hg hB)
     rw[HV.out] at HSX
     clear hB hg
     go_wp2_with fail
     go_meet
     case rel=>exact HSX
   case rest =>
    rename_i K hK
    refine hK _ _ ?_
    clear hK K
    have HS7:=hcut
    clear hcut HS6
    generalize wc=w7 at *
    have hl7:(addR c4 6 R6).length≤5:=by have:=addR_len c4 6 R6;omega
    obtain⟨R7,hR7⟩:∃ R,addR c4 6 R6=R:=⟨_,rfl⟩
    rw[hR7] at HS7 hl7
    have HR7:=Lib.hid hR7
    clear hR7
    obtain⟨⟨k0,k1,-⟩,-⟩:=sec_cells HS7.out.hd
    go_wp2_with fail
    refine(HT0.out _).mono ?_
    rintro x v7 ⟨rfl,hb⟩
    have HT:=Lib.hid (HS7.out.below hb)
    clear hb HS7 k0 k1
    go_wp2_with fail
    refine(HDC.out _).mono ?_
    rintro x v8 ⟨vr,rfl,ho,hb⟩
    have HTT:=Lib.hid (HT.out.below hb)
    have HEN:=Lib.hid ho.ensAt
    clear hb HT ho HDC HT0
    obtain⟨rt,mm,ze⟩:=D
    dsimp only at hc5 HC HGD HFD HEN ⊢
    obtain⟨ar,cr,rfl⟩:=ensAt_form HEN.out
    have HA:=Lib.hid (ask_any b 7 c5 R7 v8 HTT.out.brk (by omega) (by unfold maxLen;omega))
    go_wp2_with fail
    refine HA.out.mono ?_
    rintro x w8 ⟨rfl,hB,hg⟩
    have HEN8:=Lib.hid (HEN.out.grown hg HTT.out.brk.map)
    have HS8:=Lib.hid (HTT.out.asked (Below.refl _ _) hg hB)
    have hl8:(addR c5 7 R7).length≤6:=by have:=addR_len c5 7 R7;omega
    clear hB hg HA
    obtain⟨R8,hR8⟩:∃ R,addR c5 7 R7=R:=⟨_,rfl⟩
    rw[hR8] at HS8 hl8
    have HR8:=Lib.hid hR8
    clear hR8
    clear HEN HTT
    have H8:Hid (∀ x,x ∈ R8↔x ∈ tellR 2 [!c0,!(!TT),!c2,!(!ob),!c4,!c5]):=Lib.hid (fun x=>by rw[← HMF.out x,← HR8.out,← HR7.out,← HR6.out,← HR5.out,← HR4.out,← HR3.out,HR2.out])
    clear HMF HR8 HR7 HR6 HR5 HR4 HR3 HR2
    cases c5 with
    | true =>
     rw[if_pos (by simpa using hc5)] at HC
     go_wp2_with fail
     exact bodyPost_ret (results_none rfl _ _ _) rfl ⟨rfl,_,HS8.out.brk,fun x=>by rw[H8.out x,HC.out],HS8.out.gr⟩
    | false =>
     rw[if_neg (by simpa using hc5)] at HC
     have HE8:=Lib.hid (fun W (hW:Below w8.heap.size w8 W)=>HEN8.out.below hW)
     clear hc5 HEN8
     obtain⟨⟨-,-,-,-,k4,k5,-⟩,-⟩:=sec_cells HS8.out.hd
     obtain⟨A,hA⟩:∃ A,askA (txtA s X.lf X.ll) rt=A:=⟨_,rfl⟩
     rw[hA] at HC
     have HGA:=Lib.hid (show GoodL A.l from by rw[← hA];exact askA_good _ _ HGD.out)
     have HLA:=Lib.hid (show A.l.length≤16777216 from by rw[← hA];exact askA_few _ _ HFD.out)
     have HCL:=Lib.hid (fun W (hW:Below w8.heap.size w8 W)=>aleaves_any b (.slice ar rt.length cr) rt (txtA s X.lf X.ll) R8 W (HS8.out.brk.below hW HS8.out.brk.lt) (HE8.out W hW) HGD.out HFD.out (HX.out _ _) (by omega))
     rw[hA] at HCL
     clear hA HGD HFD HE8
     go_wp2_with fail
     refine(HT2.out _).mono ?_
     rintro x v9 ⟨rfl,hb⟩
     have HT:=Lib.hid (HS8.out.below hb)
     have HLE:=Lib.hid (HCL.out _ hb)
     clear hb HCL HT2 k4 k5
     go_wp2_with fail
     refine HLE.out.mono ?_
     rintro x w9 ⟨vl,R9,rfl,ho,hB,hI,hl9,hg⟩
     have HS9:=Lib.hid (HT.out.asked (Below.refl _ _) hg hB)
     have HEA:=Lib.hid ho.ensAt
     have HI:=Lib.hid hI
     clear hB hg ho hI HLE HT HS8
     have hlk8:=HS9.out.brk.look 8 (by omega)
     have hlk9:=HS9.out.brk.look 9 (by omega)
     have h8:∀ y,8≤y→y ∉ R8:=fun y hy hm=>by
      have:=tellR_bd ((H8.out y).1 hm)
      simp only[List.length_cons,List.length_nil] at this
      omega
     have hd8:decide ((8:Int) ∈ R9)=A.lf:=by
      have:=HI.out 8
      rw[Bool.eq_iff_iff,decide_eq_true_iff,this]
      simp[h8 8 (by omega)]
     have hd9:decide ((9:Int) ∈ R9)=A.dp:=by
      have:=HI.out 9
      rw[Bool.eq_iff_iff,decide_eq_true_iff,this]
      simp[h8 9 (by omega)]
     rw[hd8] at hlk8
     rw[hd9] at hlk9
     clear hd8 hd9 h8
     obtain⟨al,lf,dp⟩:=A
     dsimp only at HC HGA HLA HEA HI hlk8 hlk9
     obtain⟨av,cv,rfl⟩:=ensAt_form HEA.out
     cases lf with
     | true =>
      rw[if_pos (by simp)] at HC
      go_wp2_with fail
      exact bodyPost_ret (results_none rfl _ _ _) rfl ⟨rfl,_,HS9.out.brk,fun x=>by rw[HI.out x,← HC.out,List.mem_append,H8.out x];exact mem_lv _ x _ _,HS9.out.gr⟩
     | false =>
      cases dp with
      | true =>
       rw[if_pos (by simp)] at HC
       go_wp2_with fail
       exact bodyPost_ret (results_none rfl _ _ _) rfl ⟨rfl,_,HS9.out.brk,fun x=>by rw[HI.out x,← HC.out,List.mem_append,H8.out x];exact mem_lv _ x _ _,HS9.out.gr⟩
      | false =>
       rw[if_neg (by simp)] at HC
       have hla:=HLA.out
       go_upto_region 12 with fail
       clear hlk8 hlk9
       have hd0:=Below.drew (Below.refl w9.heap.size w9)
       have hC0:=hd0
       obtain⟨⟨-,-,-,-,-,-,k6,k7⟩,-⟩:=sec_cells HS9.out.hd
       have NG:=Lib.hid (show some g≠some b from fun e=>by have:=Option.some.inj e;have:=HS9.out.ne;omega)
       refine wp_region_held_drew (S:=fun w'=>(w'.cell? ⟨g,6,none⟩=some (.int .u64 X.df)∧w'.cell? ⟨g,7,none⟩=some (.int .u64 X.dl))∧HAt w' g 93 X) (by kernel_rfl) ⟨⟨ecell_later hd0 k6,ecell_later hd0 k7⟩,HS9.out.hd.later hd0⟩ (fun hH0=>?_)
       refine tK 0 97 hH0 ?_
       try simp only[Act.put,zsA,zsB,zsC]
       refine tK 1 98 hH0 ?_
       try simp only[Act.put,zsA,zsB,zsC]
       refine takeH (i:=2) (d:=99) rfl rfl (yieldsIf_headA (by rfl) _ rfl _ rfl _ _ (fun w h=>h.2)) hH0 ?_
       try simp only[Act.put,zsA,zsB,zsC]
       refine tK 3 100 hH0 ?_
       try simp only[Act.put,zsA,zsB,zsC]
       refine tK 4 101 hH0 ?_
       try simp only[Act.put,zsA,zsB,zsC]
       refine tK 5 102 hH0 ?_
       try simp only[Act.put,zsA,zsB,zsC]
       refine wpAnyH_ready (rs:=[6]) (by kernel_rfl) (by simp) ?_
       refine AllReadyH.cons rfl (fun K hK=>?_) AllReadyH.nil
       go_simp
       refine(HT3.out _).mono ?_
       rintro e w1 ⟨rfl,hb⟩
       go_wp2_with fail
       refine hK.out _ _ (⟨⟨ecell_later hb hH0.1.1,ecell_later hb hH0.1.2⟩,hH0.2.later hb⟩) (fun hH1=>?_)
       have hC1:=hC0.trans (hb.mono hC0.size)
       clear hb hH0
       clear hK K
       try simp only[Act.put,zsA,zsB,zsC]
       refine wpAnyH_ready (rs:=[7]) (by kernel_rfl) (by simp) ?_
       refine AllReadyH.cons rfl (fun K hK=>?_) AllReadyH.nil
       go_simp
       refine(aentries_any b _ al X (txtA s X.df X.dl) R9 _ (HS9.out.brk.below hC1 HS9.out.brk.lt) (HEA.out.below hC1) HGA.out (by omega) (HX.out _ _) (by omega)).mono ?_
       rintro e w2 ⟨rfl,R',hBx,hmx,hgx⟩
       go_wp2_with fail
       refine hK.out _ _ (⟨⟨hgx.cell hH1.1.1 NG.out,hgx.cell hH1.1.2 NG.out⟩,hH1.2.grownBy hgx NG.out⟩) (fun hH2=>?_)
       clear hH1
       clear hK K
       try simp only[Act.put,zsA,zsB,zsC]
       refine wpAnyH_done (by kernel_rfl) ?_ _
       go_wp2_with fail
       have HF:=Lib.hid (HS9.out.asked hC1 hgx hBx)
       exact bodyPost_end (results_none rfl _ _ _) rfl ⟨rfl,_,HF.out.brk,fun x=>by rw[hmx x,HI.out x,← HC.out,List.mem_append,H8.out x];exact mem_lvf _ _ x,HF.out.gr⟩
 ·rw[if_pos hz] at hC
  subst hC
  have hzn:(z != 0)=true:=by simpa using hz
  clear hz HE
  go_wp2_with (first|(refine store_head (by rfl) _ _ rfl _ rfl X rfl _ zeroH (by assumption) rfl ?_;intro wS HP)|fail)
  have HS0:=Lib.hid (show StE w wS b w1.heap.size X [] from ⟨HB.out.below (HP.2.2.1 _ _ HB2.out.2 HB2.out.1) HB.out.lt,HP.1,⟨HB.out.lt,HB2.out.2⟩,grown_below (World.grownBy.refl _ _) (HP.2.2.1 _ _ HB2.out.2 HB2.out.1)⟩)
  clear HP HZ HB2 HB
  refine(ask_any b 1 true [] wS HS0.out.brk (by omega) (by unfold maxLen;simp)).mono ?_
  rintro x w2 ⟨rfl,hB,hg⟩
  have HS1:=Lib.hid (HS0.out.asked (Below.refl _ _) hg hB)
  clear hB hg HS0
  go_wp2_with fail
  exact bodyPost_ret (results_none rfl _ _ _) rfl ⟨rfl,_,HS1.out.brk,fun x=>by simp[addR],HS1.out.gr⟩
theorem Own.mono {w:World} {B B':Nat} {v:Value} {l:List Int} (h:Own w B v l) (hb:B'≤B):Own w B' v l :=
 ⟨h.1,h.2.imp id fun⟨g,cap,cur,h1,h2,h3⟩=>⟨g,cap,cur,h1,Nat.le_trans hb h2,h3⟩⟩
def CheckEnd (C:List Int) (w:World) (e:Ending) (w':World):Prop:=∃ a cap,e=.returned (.slice a C.length cap)∧Own w' w.heap.size (.slice a C.length cap) C∧Below w.heap.size w w'
set_option maxHeartbeats 4000000 in
theorem acheck_any (s:ByteArray) (bud:Int) (w:World) (hq:QTab w) (hs:s.size≤1000000) (hbu:-9223372036854775808≤bud∧bud≤9223372036854775807) :
  Calls Tryz.prog 7 #[.string s,.int .i64 bud] w (CheckEnd (checkA s bud) w):=by
 have hmm:=@run_makeMap Tryz.prog
 have hb0:Below w.heap.size w (w.alloc (.map #[] 0)):=(Below.refl _ w).alloc (Nat.le_refl _) _
 have HG:Hid (∀ W,(w.alloc (.map #[] 0)).grownBy W (some w.heap.size)→Below w.heap.size w W):=Lib.hid (fun W hW=>hb0.grown hW hb0.size (fun k hk=>by cases hk;exact Nat.le_refl _))
 have HF:=Lib.hid (afile_any w.heap.size s bud (w.alloc (.map #[] 0)) (fun W hW=>hq.below (HG.out W hW)) (BrkAt.made w) hs hbu)
 obtain⟨C,hC⟩:∃ C,checkA s bud=C:=⟨_,rfl⟩
 have HU:=Lib.hid (check_up s bud)
 have HL:=Lib.hid (check_len s bud)
 rw[hC] at HF HU HL ⊢
 clear hq hb0 hC
 unfold FileEnd at HF
 unfold CheckEnd
 go_enter Tryz.func7,Tryz.ntmps7
 go_wp2_with fail
 refine HF.out.mono ?_
 rintro x w1 ⟨rfl,R,hB,hR,hg⟩
 have HB:=Lib.hid hB
 have HR:=Lib.hid hR
 have HW:=Lib.hid (HG.out w1 hg)
 clear hB hR hg HF HG
 go_wp2_with fail
 refine(keysU_any w.heap.size w1).mono ?_
 rintro x w2 ⟨rfl,rfl⟩
 have hb1:Below w1.heap.size w1 (w1.alloc (.cells #[.map (some w.heap.size)] 48)):=(Below.refl _ w1).alloc (Nat.le_refl _) _
 have hb2:Below w.heap.size w (w1.alloc (.cells #[.map (some w.heap.size)] 48)):=HW.out.alloc HW.out.size _
 have HS:=Lib.hid (sortedU_any w.heap.size R C w1.heap.size (w1.alloc (.cells #[.map (some w.heap.size)] 48)) (World.cell?_alloc_new _ _ _ 0) (HB.out.below hb1 HB.out.lt) HU.out.1 HR.out HL.out)
 have H2:=Lib.hid hb2
 clear hb1 hb2 HW HB HR HU HL
 go_wp2_with fail
 refine HS.out.mono ?_
 rintro x w3 ⟨v,rfl,ho,hb3⟩
 have ho2:Own w3 w.heap.size v C:=ho.mono H2.out.size
 obtain⟨a,cap,rfl⟩:=ho2.slice
 have HO:=Lib.hid (And.intro ho2 (H2.out.trans (hb3.mono H2.out.size)))
 clear ho ho2 hb3 HS H2
 go_wp2_with fail
 go_ret
 exact⟨a,cap,rfl,HO.out.1,HO.out.2⟩
theorem agood_any (s:ByteArray) (bud:Int) (w:World) (hq:QTab w) (hs:s.size≤1000000) (hbu:-9223372036854775808≤bud∧bud≤9223372036854775807) :
  Calls Tryz.prog 9 #[.string s,.int .i64 bud] w fun e w'=>e=.returned (.bool (decide (checkA s bud=[])))∧Below w.heap.size w w':=by
 have HA:=Lib.hid (acheck_any s bud w hq hs hbu)
 have HL:=Lib.hid (check_len s bud)
 generalize checkA s bud=C at *
 unfold CheckEnd at HA
 clear hq
 go_enter Tryz.func9,Tryz.ntmps9
 go_wp2_with fail
 refine HA.out.mono ?_
 rintro x w1 ⟨a,cap,rfl,ho,hb⟩
 have HB:=Lib.hid hb
 have hl:=HL.out
 have hz:((C.length:Int) == 0)=decide (C=[]):=by rw[Bool.eq_iff_iff];cases C <;> simp <;> omega
 clear ho hb HA
 go_wp2_with fail
 go_ret
 exact⟨rfl,HB.out⟩
end Go.Proofs.YtjkgkmmkehnggaaGreatDoor
namespace Go.Proofs.YtjkgkmmkehnggaaGreatDoor
set_option linter.unusedVariables false
set_option linter.unusedSimpArgs false
open Go.RowKit
set_option maxRecDepth 100000
set_option maxHeartbeats 4000000 in
theorem head18_any (s v:Value) (L:List It) (k:Int) (w:World) (h:ChS w s L) (hv:EnsAt w v (rowsS L).1) :
  Calls Tryz.prog 33 #[.agg #[s],.int .u8 k,v] w fun e w'=>e=.returned (.agg (cH (hdP L k)))∧Below w.heap.size w w':=by
 have hg:=h.good
 have hfew:=hg.few
 have hrl:=rows_len hg
 have hcl:=con_le (rowsS L).1
 have hw1:IntKind.u64.wrap (L.length:Int)=(L.length:Int):=by rw[IntKind.wrap_u64] <;> omega
 have hw2:IntKind.u64.wrap ((rowsS L).1.length:Int)=((rowsS L).1.length:Int):=by rw[IntKind.wrap_u64] <;> omega
 have hw3:IntKind.u64.wrap (conN (rowsS L).1:Int)=(conN (rowsS L).1:Int):=by rw[IntKind.wrap_u64] <;> omega
 obtain⟨a5,n5,c5,rfl⟩:=h.form
 have HV:=Lib.hid hv
 obtain⟨ar,cr,rfl,hcr,hmr,_⟩:=hv
 obtain⟨W,hW⟩:∃ W,(w.alloc (.cells #[.slice a5 n5 c5] 32)).alloc (.cells (cH zeroH) 93)=W:=⟨_,rfl⟩
 have h0:One W w.heap.size (.slice a5 n5 c5):=by
  rw[← hW]
  exact(one_new w _ _).alloc _
 have h2:HAt W (w.heap.size+1) 93 zeroH:=by
  have:=HAt.made (w.alloc (.cells #[.slice a5 n5 c5] 32)) zeroH 93
  simp only[World.size_alloc] at this
  rw[← hW]
  exact this
 have hbw:Below w.heap.size w W:=by rw[← hW];exact((Below.refl _ w).alloc (Nat.le_refl _) _).alloc (by simp) _
 have HM:=Lib.hid (rows_may hg)
 have HZ:=Lib.hid (zooms_any (.slice a5 n5 c5) L W (h.below hbw))
 have HL:=Lib.hid (fun X (hX:Below W.heap.size W X)=>len_anyC (.slice a5 n5 c5) L X ((h.below hbw).below hX))
 have HC:=Lib.hid (fun X (hX:Below W.heap.size W X)=>pcont_any _ (rowsS L).1 X ((HV.out.below hbw).below hX) HM.out (by omega))
 have H0:=Lib.hid h0
 have H2:=Lib.hid h2
 have HB:=Lib.hid hbw
 have q0:=h0.cell
 have hz:cH zeroH=#[.int .u64 0,.int .u64 0,.int .u64 0,.int .u64 0,.int .u64 0,.int .u64 0,.int .u64 0,.int .u64 0,.int .u64 0,.int .u64 0,.int .u64 0,.bool false,.int .u8 0,.int .u8 0,.int .u8 0,.int .i64 0,.int .i64 0,.int .i64 0,.int .i64 0,.int .i64 0,.int .i64 0,.int .i64 0,.int .i64 0,.int .i64 0]:=rfl
 rw[hz] at hW
 have hR:cH (hdP L k)=#[.int .u64 0,.int .u64 0,.int .u64 0,.int .u64 0,.int .u64 0,.int .u64 0,.int .u64 0,.int .u64 0,.int .u64 L.length,.int .u64 (rowsS L).1.length,.int .u64 (conN (rowsS L).1:Nat),.bool true,.int .u8 1,.int .u8 1,.int .u8 k,.int .i64 (zlo L),.int .i64 (zhi L),.int .i64 (-1800000000),.int .i64 (-850511287),.int .i64 1800000000,.int .i64 850511287,.int .i64 (zlo L),.int .i64 0,.int .i64 0]:=rfl
 generalize hX:hdP L k=X at *
 have HR:=Lib.hid hR
 clear h hg h0 h2 hbw hz hcl hX hR
 generalize (rowsS L).1=R at *
 generalize zlo L=zl at *
 generalize zhi L=zh at *
 generalize conN R=cn at *
 go_enter Tryz.func33,Tryz.ntmps33
 go_wp2_with fail
 try rw[hW]
 clear hW
 refine HZ.out.mono ?_
 rintro e w1 ⟨rfl,hb1⟩
 have HB1:=Lib.hid hb1
 have q1:=(H0.out.below hb1).cell
 clear hb1 q0 HZ
 go_wp2_with fail
 refine(HL.out _ HB1.out).mono ?_
 rintro e w2 ⟨rfl,hb2⟩
 have HB2:=Lib.hid (HB1.out.trans (hb2.mono HB1.out.size))
 clear hb2 q1 HB1 HL
 go_wp2_with fail
 refine(HC.out _ HB2.out).mono ?_
 rintro e w3 ⟨rfl,hb3⟩
 have HB3:=Lib.hid (HB2.out.trans (hb3.mono HB2.out.size))
 have HH:=Lib.hid (H2.out.later HB3.out)
 have HBX:=Lib.hid (HB.out.trans (HB3.out.mono HB.out.size))
 clear hb3 HB2 HC
 go_wp2_with (first|(refine wpList_store_row rfl 93 _ _ rfl (w.heap.size+1) _ rfl rfl 93 (cH zeroH) HH.out head_size rfl (by have:=cH_one X;rw[HR.out] at this;exact this) ?_)|fail)
 have hp:=put24 w3 (w.heap.size+1) _ zeroH X HH.out
 rw[← HR.out]
 refine bodyPost_ret (results_cell_row rfl _ _ (w.heap.size+1) 93 (cH X) (0,0) _ rfl hp.1 Tryz.underlying93 rfl head_size) rfl ⟨rfl,hp.2.2.1 _ _ (by omega) HBX.out⟩
theorem close18 (gb ge:Nat) (x y:Int) (u:FrameMode) (w:World) (hb:One w gb (.int .i64 x)) (he:One w ge (.int .i64 y)) :
  CallsD Tryz.prog 27 #[.pointer (some ⟨gb,0,none⟩),.pointer (some ⟨ge,0,none⟩)] u w fun e u' w'=>u'=u∧(e=.returned (.tuple #[])∧w'=w.setCell ⟨ge,0,none⟩ (.int .i64 x)):=by
 have h1:=hb.cell
 have h2:=he.cell
 have h3:=he.frz
 go_enter_d Tryz.func27,Tryz.ntmps27
 go_wp2
 go_end0
 exact⟨rfl,rfl⟩
theorem Box.set_other {w:World} {g g':Nat} {x:Array Value} (h:Box w g x) (hn:g≠g') (x':Value):Box (w.setCell ⟨g',0,none⟩ x') g x:=by
 obtain⟨T,h⟩:=h
 exact⟨T,hother h hn _ _⟩
theorem EnsAt.set18 {w:World} {v:Value} {l:List En} (h:EnsAt w v l) {g:Nat} {x:Value} (ho:One w g x) (x':Value):EnsAt (w.setCell ⟨g,0,none⟩ x') v l:=by
 obtain⟨T,hh⟩:=ho
 obtain⟨a,cap,rfl,h1,h2,hc⟩:=h
 refine⟨a,cap,rfl,h1,h2,fun k t ht=>?_⟩
 obtain⟨g',off,ha,hg,c0,c1,c2,c3⟩:=hc k t ht
 have hn:g'≠g:=by
  rintro rfl
  simp[World.cell?,hh] at c3
 have hb:(w.setCell ⟨g,0,none⟩ x').heap[g']?=w.heap[g']?:=Below.heap_setCell _ _ _ _ (by simpa using hn)
 exact⟨g',off,ha,by simpa using hg,(World.cell?_of_block (a:=⟨g',_,none⟩) hb).trans c0,(World.cell?_of_block (a:=⟨g',_,none⟩) hb).trans c1,(World.cell?_of_block (a:=⟨g',_,none⟩) hb).trans c2,(World.cell?_of_block (a:=⟨g',_,none⟩) hb).trans c3⟩
theorem plan_size:(Tryz.prog.info? 38).map (·.size)=some 3:=by kernel_rfl
structure StP (w W:World) (g0 g1 g2 g3:Nat) (s:Value) (L:List It) (b k:Int) (t:ByteArray) (z:Int):Prop where
 ord:w.heap.size≤g2∧w.heap.size≤g3∧g0≠g3∧g1≠g3∧g2≠g3
 ch:One W g0 s
 pl:Box W g1 (planV b k t)
 e:One W g2 (.int .i64 0)
 bad:One W g3 (.int .i64 z)
 its:ChS W s L
 bel:Below w.heap.size w W
theorem StP.below {w W X:World} {g0 g1 g2 g3:Nat} {s:Value} {L:List It} {b k:Int} {t:ByteArray} {z:Int} (h:StP w W g0 g1 g2 g3 s L b k t z) (hb:Below W.heap.size W X):StP w X g0 g1 g2 g3 s L b k t z :=
 ⟨h.ord,h.ch.below hb,h.pl.below hb,h.e.below hb,h.bad.below hb,h.its.below hb,h.bel.trans (hb.mono h.bel.size)⟩
theorem StP.tell {w W:World} {g0 g1 g2 g3:Nat} {s:Value} {L:List It} {b k:Int} {t:ByteArray} {z:Int} (h:StP w W g0 g1 g2 g3 s L b k t z) (y:Int):StP w (W.setCell ⟨g3,0,none⟩ (.int .i64 y)) g0 g1 g2 g3 s L b k t y :=
 ⟨h.ord,h.ch.set_other h.ord.2.2.1 _,h.pl.set_other h.ord.2.2.2.1 _,h.e.set_other h.ord.2.2.2.2 _,h.bad.set _,h.its.set h.bad _,h.bel.setCell (p:=⟨g3,0,none⟩) h.ord.2.1 _⟩
theorem StP.facts {w W:World} {g0 g1 g2 g3:Nat} {s:Value} {L:List It} {b k:Int} {t:ByteArray} {z:Int} (h:StP w W g0 g1 g2 g3 s L b k t z) :
  W.cell? ⟨g0,0,none⟩=some s∧W.cell? ⟨g1,0,none⟩=some (.int .i64 b)∧W.cell? ⟨g1,1,none⟩=some (.int .u8 k)∧W.cell? ⟨g1,2,none⟩=some (.string t) ∧
  W.cell? ⟨g3,0,none⟩=some (.int .i64 z)∧W.frozen? ⟨g3,0,none⟩=false∧(loadVar 38 ⟨g1,0,none⟩).run Tryz.prog W=.ok (.agg (planV b k t)) W:=by
 refine⟨h.ch.cell,by rw[h.pl.cell];rfl,by rw[h.pl.cell];rfl,by rw[h.pl.cell];rfl,h.bad.cell,h.bad.frz,?_⟩
 obtain⟨T,hT⟩:=h.pl
 exact run_loadVar_row W g1 T _ _ (0,0) _ hT Tryz.underlying38 rfl plan_size
theorem StP.shut {w W:World} {g0 g1 g2 g3:Nat} {s:Value} {L:List It} {b k:Int} {t:ByteArray} {z:Int} (h:StP w W g0 g1 g2 g3 s L b k t z) :
  (W.setCell ⟨g2,0,none⟩ (.int .i64 z)).cell? ⟨g2,0,none⟩=some (.int .i64 z)∧Below w.heap.size w (W.setCell ⟨g2,0,none⟩ (.int .i64 z)) :=
 ⟨(h.e.set _).cell,h.bel.setCell (p:=⟨g2,0,none⟩) h.ord.1 _⟩
set_option maxHeartbeats 4000000 in
theorem press18_any (s:Value) (L:List It) (b k:Int) (t:ByteArray) (w:World) (hq:QTab w) (h:ChS w s L) (hl:L.length≤150) (hk:U8 k) (hb:-9223372036854775808≤b∧b≤9223372036854775807) (ht:t.size≤1000000) :
  Calls Tryz.prog 12 #[.agg #[s],.agg (planV b k t)] w fun e w'=>e=.returned (.tuple #[.string (pressN L b k t).1,.int .i64 (pressN L b k t).2])∧Below w.heap.size w w':=by
 have hmf:∀ (fn:Fn) (first cap:Array Value) (w:World),(Instr.makeFunc fn first cap).run Tryz.prog w=.ok (.func fn first cap) w:=fun _ _ _ _=>rfl
 have hg:=h.good
 have hrl:=rows_len hg
 have HQ:=Lib.hid (fun W (hb:Below w.heap.size w W)=>hq.below hb)
 have HCK:=Lib.hid (fun W hq=>check18_any b k t W hq ht)
 obtain⟨a5,n5,c5,rfl⟩:=h.form
 obtain⟨W,hW⟩:∃ W,(((w.alloc (.cells #[.slice a5 n5 c5] 32)).alloc (.cells (planV b k t) 38)).alloc (.cells #[.int .i64 0] 35)).alloc (.cells #[.int .i64 0] 35)=W:=⟨_,rfl⟩
 have hS:StP w W w.heap.size (w.heap.size+1) (w.heap.size+1+1) (w.heap.size+1+1+1) (.slice a5 n5 c5) L b k t 0:=by
  have b1:=(Below.refl w.heap.size w).alloc (Nat.le_refl _) (.cells #[.slice a5 n5 c5] 32)
  have o1:=one_new w (.slice a5 n5 c5) 32
  generalize hW1:w.alloc (.cells #[.slice a5 n5 c5] 32)=W1 at *
  have z1:W1.heap.size=w.heap.size+1:=by rw[← hW1,World.size_alloc]
  have b2:=(Below.refl W1.heap.size W1).alloc (Nat.le_refl _) (.cells (planV b k t) 38)
  have o2:=box_new W1 (planV b k t) 38
  generalize hW2:W1.alloc (.cells (planV b k t) 38)=W2 at *
  have z2:W2.heap.size=w.heap.size+1+1:=by rw[← hW2,World.size_alloc,z1]
  have b3:=(Below.refl W2.heap.size W2).alloc (Nat.le_refl _) (.cells #[.int .i64 0] 35)
  have o3:=one_new W2 (.int .i64 0) 35
  generalize hW3:W2.alloc (.cells #[.int .i64 0] 35)=W3 at *
  have z3:W3.heap.size=w.heap.size+1+1+1:=by rw[← hW3,World.size_alloc,z2]
  have b4:=(Below.refl W3.heap.size W3).alloc (Nat.le_refl _) (.cells #[.int .i64 0] 35)
  have o4:=one_new W3 (.int .i64 0) 35
  rw[hW] at b4 o4
  rw[z1] at o2
  rw[z2] at o3
  rw[z3] at o4
  have c1:=b1.trans ((b2.mono b1.size).trans (((b3.mono b2.size).trans (b4.mono (Nat.le_trans b2.size b3.size))).mono b1.size))
  exact⟨⟨by omega,by omega,by omega,by omega,by omega⟩,((o1.below b2).below b3).below b4,(o2.below b3).below b4,o3.below b4,o4,h.below c1,c1⟩
 unfold planV at hW ⊢
 generalize hP:pressN L b k t=P
 have HP:=Lib.hid hP
 have HS:=Lib.hid hS
 have H0:=Lib.hid h
 clear hq hS h hP
 go_enter_defers Tryz.func12,Tryz.ntmps12
 go_upto_region 3 with fail
 generalize w.heap.size+1+1+1=g3 at *
 generalize w.heap.size+1+1=g2 at *
 generalize w.heap.size+1=g1 at *
 obtain⟨q0,p0,p1,p2,b0,bf,lp⟩:=HS.out.facts
 unfold planV at lp HCK
 obtain⟨cz,hcz⟩:∃ z,ckP b k t=z:=⟨_,rfl⟩
 rw[hcz] at HCK
 have HCZ:=Lib.hid hcz
 clear hcz hW
 go_wp2_with fail
 refine(HCK.out _ (HQ.out _ HS.out.bel)).mono ?_
 rintro e w1 ⟨rfl,hb1⟩
 have HS1:=Lib.hid (HS.out.below hb1)
 obtain⟨_,_,_,_,b1,bf1,_⟩:=HS1.out.facts
 clear HS hb1 q0 p0 p1 p2 b0 bf lp HCK
 by_cases h1:cz=0
 ·subst h1
  have HS2:=Lib.hid (HS1.out.tell 0)
  go_upto_region 5 with fail
  generalize w1.setCell { block:=g3,off:=0 } (Value.int IntKind.i64 0)=w2 at *
  obtain⟨q0,_⟩:=HS2.out.facts
  clear HS1 b1 bf1
  go_wp2_with fail
  refine(rows13_any _ L _ HS2.out.its).mono ?_
  rintro e w3 ⟨v3,rfl,hr3,hb3⟩
  have HS3:=Lib.hid (HS2.out.below hb3)
  obtain⟨_,p0,_⟩:=HS3.out.facts
  have HR3:=Lib.hid hr3
  obtain⟨ar,cr,rfl,hcr,hmr,_⟩:=hr3
  have HSP:=Lib.hid (split14_any _ (rowsS L).1 b _ HR3.out (rows_may hg) (by omega) hb)
  clear HS2 hb3 q0
  unfold SplEnd at HSP
  go_wp2_with fail
  refine HSP.out.mono ?_
  rintro e w4 ⟨v4,rfl,hr4,hb4⟩
  have HS4:=Lib.hid (HS3.out.below hb4)
  have HR4:=Lib.hid (And.intro (HR3.out.below hb4) hr4)
  obtain⟨_,_,_,_,b4,bf4,_⟩:=HS4.out.facts
  clear HS3 hb4 p0 HSP hr4 HR3
  obtain⟨ez,hez⟩:∃ z,(splitN (rowsS L).1 b).err=z:=⟨_,rfl⟩
  have HEZ:=Lib.hid hez
  rw[hez]
  clear hez
  by_cases h2:ez=0
  ·subst h2
   have he:=HEZ.out
   have hbb:b≤16257:=(split_ok he).2.1
   have SP:=spl_of (rows_may hg) (by omega) he
   have HFW:=Lib.hid (few_pt (s:=t) hg hl ht he hbb)
   have HS5:=Lib.hid (HS4.out.tell 0)
   have HR5:=Lib.hid (And.intro (HR4.out.1.set18 HS4.out.bad (.int .i64 0)) (HR4.out.2.set18 HS4.out.bad (.int .i64 0)))
   have HEN:=Lib.hid (fun X hX=>pencD_any v4 (splitN (rowsS L).1 b).root X hX SP.may (by have:=SP.len;omega))
   have HHD:=Lib.hid (fun X (h1:ChS X (.slice a5 n5 c5) L) h2=>head18_any (.slice a5 n5 c5) (.slice ar (rowsS L).1.length cr) L k X h1 h2)
   have HGL:=Lib.hid (fun X=>glue15_any (hdP L k) (ptP L b t) X (may_hd hg hk) HFW.out)
   have HPE0:Hid (P=glueN (hdP L k) (ptP L b t)):=Lib.hid (by rw[← HP.out];unfold pressN;rw[HCZ.out,if_neg (by simp),he,if_neg (by simp)])
   generalize glueN (hdP L k) (ptP L b t)=G at *
   obtain⟨y,z⟩:=G
   have HPE:Hid (P=(y,z)):=HPE0
   unfold pArr ptP at HGL
   dsimp only at HGL
   generalize cH (hdP L k)=Hc at *
   clear SP he HPE0
   go_upto_region 8 with fail
   generalize w4.setCell { block:=g3,off:=0 } (Value.int IntKind.i64 0)=w5 at *
   clear HS4 HR4 b4 bf4
   go_wp2_with fail
   refine(HEN.out _ HR5.out.2).mono ?_
   rintro e w6 ⟨rfl,hb6⟩
   have HS6:=Lib.hid (HS5.out.below hb6)
   have HR6:=Lib.hid (HR5.out.1.below hb6)
   obtain⟨q0,p0,p1,p2,b0,bf,_⟩:=HS6.out.facts
   clear HS5 HR5 hb6 HEN
   go_upto_region 9 with fail
   go_cut [4] from 40 to 54 (fun x wx=>x=.string y∧StP w wx w.heap.size g1 g2 g3 (.slice a5 n5 c5) L b k t z)
   case first =>
    refine wp_mono (Q:=normOnly _) ?_ normOnly_to
    go_region_with (first|(go_at_call 33;refine(HHD.out _ (HS6.out.its.below (by go_grown)) (HR6.out.below (by go_grown))).mono ?_;rintro e wa ⟨rfl,hba⟩;have hbA:Below w6.heap.size w6 wa:=Below.trans (by go_grown) (hba.mono (by simp));obtain⟨_,_,r1,r2,rb,rf,_⟩:=(HS6.out.below hbA).facts)|(go_at_call 32;refine(HGL.out _).mono ?_;rintro e wb ⟨rfl,hbb⟩;have hbB:Below w6.heap.size w6 wb:=hbA.trans (hbb.mono hbA.size);obtain⟨_,_,_,_,sb,sf,_⟩:=(HS6.out.below hbB).facts))
    all_goals
     dsimp only[normOnly]
     go_wp2_with fail
     go_meet
     case rel=>exact⟨rfl,(HS6.out.below hbB).tell z⟩
   case rest =>
    obtain⟨rfl,hS9⟩:=hcut
    generalize wc=w9 at *
    have HS9:=Lib.hid hS9
    clear hS9
    go_wp2_with fail
    refine leaves_cons (f:=27) (args:=#[.pointer (some ⟨g3,0,none⟩),.pointer (some ⟨g2,0,none⟩)]) (by simp) (by simp[go_sem]) ?_
    refine(close18 g3 g2 z 0 .returning _ HS9.out.bad HS9.out.e).mono ?_
    rintro e u' w'' ⟨rfl,rfl,rfl⟩
    obtain⟨k1,k2⟩:=HS9.out.shut
    refine⟨.tuple #[.string y,.int .i64 z],?_,by rw[HPE.out],k2⟩
    clear k2
    generalize w9.setCell { block:=g2,off:=0 } (Value.int IntKind.i64 z)=W9 at *
    simp[results,Tryz.results12,go_sem,k1]
  ·have e2:(ez == 0)=false:=by simp[h2]
   have HS5:=Lib.hid (HS4.out.tell ez)
   have HPE:Hid (P=(noB,ez)):=Lib.hid (by rw[← HP.out];unfold pressN;rw[HCZ.out,if_neg (by simp),HEZ.out,if_pos h2])
   go_wp2_with fail
   refine leaves_cons (f:=27) (args:=#[.pointer (some ⟨g3,0,none⟩),.pointer (some ⟨g2,0,none⟩)]) (by simp) (by simp[go_sem]) ?_
   refine(close18 g3 g2 ez 0 .returning _ HS5.out.bad HS5.out.e).mono ?_
   rintro e u' w'' ⟨rfl,rfl,rfl⟩
   obtain⟨k1,k2⟩:=HS5.out.shut
   refine⟨.tuple #[.string noB,.int .i64 ez],?_,by rw[HPE.out],k2⟩
   clear k2
   generalize (w4.setCell { block:=g3,off:=0 } (Value.int IntKind.i64 ez)).setCell { block:=g2,off:=0 } (Value.int IntKind.i64 ez)=W9 at *
   simp[results,Tryz.results12,go_sem,k1,noB]
 ·have e1:(cz == 0)=false:=by simp[h1]
  have HS2:=Lib.hid (HS1.out.tell cz)
  have HPE:Hid (P=(noB,cz)):=Lib.hid (by rw[← HP.out];unfold pressN;rw[HCZ.out,if_pos h1])
  go_wp2_with fail
  refine leaves_cons (f:=27) (args:=#[.pointer (some ⟨g3,0,none⟩),.pointer (some ⟨g2,0,none⟩)]) (by simp) (by simp[go_sem]) ?_
  refine(close18 g3 g2 cz 0 .returning _ HS2.out.bad HS2.out.e).mono ?_
  rintro e u' w'' ⟨rfl,rfl,rfl⟩
  obtain⟨k1,k2⟩:=HS2.out.shut
  refine⟨.tuple #[.string noB,.int .i64 cz],?_,by rw[HPE.out],k2⟩
  clear k2
  generalize (w1.setCell { block:=g3,off:=0 } (Value.int IntKind.i64 cz)).setCell { block:=g2,off:=0 } (Value.int IntKind.i64 cz)=W9 at *
  simp[results,Tryz.results12,go_sem,k1,noB]
def xT:ByteArray:={ data:=#[120] }
def xL:List It:=[(0,xT)]
def obT:ByteArray:={ data:=#[123,125] }
def arT:ByteArray:={ data:=#[80,77,84,105,108,101,115,3,127,0,0,0,0,0,0,0,5,0,0,0,0,0,0,0,132,0,0,0,0,0,0,0,2,0,0,0,0,0,0,0,134,0,0,0,0,0,0,0,0,0,0,0,0,0,0,0,134,0,0,0,0,0,0,0,1,0,0,0,0,0,0,0,1,0,0,0,0,0,0,0,1,0,0,0,0,0,0,0,1,0,0,0,0,0,0,0,1,1,1,0,0,0,0,46,182,148,73,58,78,205,0,210,73,107,183,197,177,50,0,0,0,0,0,0,0,0,0,1,0,1,1,1,123,125,120] }
theorem x_of:ofI xL=(xL,0):=by rfl
theorem x_press:pressN xL 512 0 obT=(arT,0):=by kernel_rfl
theorem its_one (w:World) (x:Nat) (s:ByteArray) (T:TypeId):ItsAt (w.alloc (.cells #[.int .u64 x,.string s] T)) (.slice (some ⟨w.heap.size,0,none⟩) 1 1) [(x,s)]:=by
 refine⟨_,1,rfl,Nat.le_refl _,by unfold maxLen;omega,fun k u hu=>⟨w.heap.size,0,rfl,by simp,?_⟩⟩
 match k,hu with
 | 0,hu=>simp only[List.getElem?_cons_zero,Option.some.injEq] at hu;subst hu;exact⟨by simp[go_sem],by simp[go_sem]⟩
 | k+1,hu=>simp at hu
theorem aw_of (v:Value) (w:World) (hv:ItsAt w v xL):Calls Tryz.prog 13 #[v] w fun e w'=>∃ s',e=.returned (.tuple #[.agg #[s'],.int .i64 0])∧ChS w' s' xL∧Below w.heap.size w w':=by
 refine(of_anyC v _ w hv (by decide) (fun t ht=>?_) (fun t ht=>?_)).mono ?_
 ·simp[xL] at ht;subst ht;decide
 ·simp[xL] at ht;unfold maxLen;subst ht;decide
 rintro e w' ⟨s',rfl,h,hb⟩
 rw[x_of] at h
 exact⟨s',by rw[x_of];rfl,h,hb⟩
theorem aw_press (s:Value) (w:World) (hq:QTab w) (h:ChS w s xL):Calls Tryz.prog 12 #[.agg #[s],.agg #[.int .i64 512,.int .u8 0,.string { data:=#[123,125] }]] w fun e w'=>e=.returned (.tuple #[.string arT,.int .i64 0])∧Below w.heap.size w w':=by
 have:=press18_any s xL 512 0 obT w hq h (by decide) (by unfold U8;omega) (by omega) (by decide)
 rw[x_press] at this
 exact this
theorem aw_size:arT.size=135:=by kernel_rfl
end Go.Proofs.YtjkgkmmkehnggaaGreatDoor
namespace Go.Proofs.YtjkgkmmkehnggaaGreatDoor
set_option linter.unusedVariables false
set_option linter.unusedSimpArgs false
open Go.RowKit Go.Maps
set_option maxRecDepth 100000
theorem y_ck1:checkA arT 512=[]:=by kernel_rfl
theorem y_ck2:checkA (arT++xT) 512=[3]:=by kernel_rfl
theorem y_ck3:checkA arT 4=[6]:=by kernel_rfl
theorem y_ck4:checkA { data:=#[] } 512=[1]:=by kernel_rfl
theorem aw_size2:(arT++xT).size=136:=by kernel_rfl
theorem own_cell {w:World} {B:Nat} {a:Option Addr} {cap:Nat} {l:List Int} (h:Own w B (.slice a l.length cap) l) (hl:0<l.length):∃ g,a=some ⟨g,0,none⟩∧B≤g∧g<w.heap.size∧∀ k,k<l.length→w.cell? ⟨g,k,none⟩=some (.int .u8 (gI l k)):=by
 rcases h.formU with ⟨e,-⟩|⟨g,cap',e,h1,h2,-⟩
 ·injection e with e1 e2 e3;omega
 ·injection e with e1 e2 e3
  subst e1 e3
  refine⟨g,rfl,h1,h2,fun k hk=>?_⟩
  have h1:=World.ownsRow.cellAt h k (by omega)
  rw[h1,List.getElem?_map,gI_get l k hk]
  rfl
theorem one_cell {w:World} {B:Nat} {a:Option Addr} {cap:Nat} {x:Int} (h:Own w B (.slice a 1 cap) [x]):∃ g,a=some ⟨g,0,none⟩∧g<w.heap.size∧w.cell? ⟨g,0,none⟩=some (.int .u8 x):=by
 obtain⟨g,rfl,_,h2,h3⟩:=own_cell (l:=[x]) h (by simp)
 exact⟨g,rfl,h2,h3 0 (by simp)⟩
set_option maxHeartbeats 4000000 in
theorem awake19_any (w:World) (hq:QTab w):Calls Tryz.prog 6 #[] w fun e w'=>e=.returned (.bool true)∧Below w.heap.size w w':=by
 have HQ:=Lib.hid hq
 have HI:=Lib.hid (its_one w 0 xT 46)
 have HB0:=Lib.hid (below_oneC w (.cells #[.int .u64 0,.string xT] 46))
 unfold xT at HI HB0
 have HK1:=Lib.hid (fun W hW=>acheck_any arT 512 W hW (by rw[aw_size];omega) (by omega))
 have HK2:=Lib.hid (fun W hW=>acheck_any (arT++xT) 512 W hW (by rw[aw_size2];omega) (by omega))
 have HK3:=Lib.hid (fun W hW=>acheck_any arT 4 W hW (by rw[aw_size];omega) (by omega))
 have HK4:=Lib.hid (fun W hW=>acheck_any { data:=#[] } 512 W hW (by decide) (by omega))
 have HG1:=Lib.hid (fun W hW=>agood_any arT 512 W hW (by rw[aw_size];omega) (by omega))
 have HG4:=Lib.hid (fun W hW=>agood_any { data:=#[] } 512 W hW (by decide) (by omega))
 rw[y_ck1] at HK1 HG1
 rw[y_ck2] at HK2
 rw[y_ck3] at HK3
 rw[y_ck4] at HK4 HG4
 rw[decide_eq_true (show ([]:List Int)=[] from rfl)] at HG1
 rw[decide_eq_false (show ¬ ([1]:List Int)=[] by simp)] at HG4
 unfold CheckEnd at HK1 HK2 HK3 HK4
 have hsz:=aw_size
 have hsx:({ data:=#[120] }:ByteArray).size=1:=rfl
 unfold xT at HK2
 clear hq
 go_enter Tryz.func6,Tryz.ntmps6
 go_wp2_with fail
 refine(aw_of _ _ HI.out).mono ?_
 rintro e w1 ⟨s1,rfl,hc1,hb1⟩
 obtain⟨a1,n1,p1,rfl⟩:=hc1.form
 have HB1:=Lib.hid (HB0.out.trans (hb1.mono HB0.out.size))
 have HC1:=Lib.hid hc1
 clear hb1 hc1 HI HB0
 have h1:=below_oneC w1 (.cells #[.slice a1 n1 p1] 32)
 have HC2:=Lib.hid (And.intro (one_new w1 (.slice a1 n1 p1) 32) (And.intro (HC1.out.below h1) (HB1.out.trans (h1.mono HB1.out.size))))
 clear h1 HB1 HC1
 go_wp2_with fail
 generalize w1.alloc (.cells #[.slice a1 n1 p1] 32)=W1 at *
 generalize w1.heap.size=gc at *
 refine(aw_press _ _ (HQ.out.below HC2.out.2.2) HC2.out.2.1).mono ?_
 rintro e w2 ⟨rfl,hb2⟩
 have HB2:=Lib.hid (HC2.out.2.2.trans (hb2.mono HC2.out.2.2.size))
 clear hb2 HC2
 generalize arT=A at *
 go_wp2_with fail
 refine(HK2.out _ (HQ.out.below HB2.out)).mono ?_
 rintro e w3 ⟨a3,c3,rfl,ho,hb⟩
 have HB3:=Lib.hid (HB2.out.trans (hb.mono HB2.out.size))
 obtain⟨g3,rfl,hl3,q3⟩:=one_cell ho
 clear HB2 hb ho HK2
 dsimp only[List.length_cons,List.length_nil]
 go_wp2_with fail
 refine(HK3.out _ (HQ.out.below HB3.out)).mono ?_
 rintro e w4 ⟨a4,c4,rfl,ho,hb⟩
 have HB4:=Lib.hid (HB3.out.trans (hb.mono HB3.out.size))
 obtain⟨g4,rfl,hl4,q4⟩:=one_cell ho
 replace q3:=ecell_later hb q3
 clear HB3 hb ho HK3
 go_wp2_with fail
 refine(HK4.out _ (HQ.out.below HB4.out)).mono ?_
 rintro e w5 ⟨a5,c5,rfl,ho,hb⟩
 have HB5:=Lib.hid (HB4.out.trans (hb.mono HB4.out.size))
 obtain⟨g5,rfl,hl5,q5⟩:=one_cell ho
 replace q3:=ecell_later hb q3
 replace q4:=ecell_later hb q4
 clear HB4 hb ho HK4
 go_wp2_with fail
 refine(HG1.out _ (HQ.out.below HB5.out)).mono ?_
 rintro e w6 ⟨rfl,hb⟩
 have HB6:=Lib.hid (HB5.out.trans (hb.mono HB5.out.size))
 replace q3:=ecell_later hb q3
 replace q4:=ecell_later hb q4
 replace q5:=ecell_later hb q5
 clear HB5 hb HG1
 go_wp2_with fail
 refine(HK1.out _ (HQ.out.below HB6.out)).mono ?_
 rintro e w7 ⟨a7,c7,rfl,ho,hb⟩
 have HB7:=Lib.hid (HB6.out.trans (hb.mono HB6.out.size))
 replace q3:=ecell_later hb q3
 replace q4:=ecell_later hb q4
 replace q5:=ecell_later hb q5
 clear HB6 hb ho HK1
 go_wp2_with fail
 refine(HG4.out _ (HQ.out.below HB7.out)).mono ?_
 rintro e w8 ⟨rfl,hb⟩
 have HB8:=Lib.hid (HB7.out.trans (hb.mono HB7.out.size))
 clear HB7 hb q3 q4 q5 HG4
 go_wp2_with fail
 go_ret
 exact⟨rfl,HB8.out⟩
theorem gI_app (a b:List Int) (k:Nat):gI (a++b) k=if k<a.length then gI a k else gI b (k - a.length):=by
 unfold gI
 rw[List.getD_eq_getElem?_getD,List.getElem?_append]
 split <;> rw[List.getD_eq_getElem?_getD]
def TwoF (L M:List Int) (f:Nat→Nat):Prop:=f 0=0∧f L.length=M.length∧∀ i,i<L.length→(f i<M.length∧gI M (f i)=gI L i∧f (i+1)=f i+1)∨((f i<M.length→gI M (f i)≠gI L i)∧gI L i=6∧f (i+1)=f i)
theorem two_same (L:List Int):TwoF L L (fun i=>i):=⟨rfl,rfl,fun i hi=>.inl ⟨hi,rfl,rfl⟩⟩
theorem two_less (A C:List Int) (hC:∀ x ∈ C,6<x):TwoF (A++[6]++C) (A++[]++C) (fun i=>if i≤A.length then i else i - 1):=by
 have l1:(A++[6]++C).length=A.length+1+C.length:=by simp;omega
 have l2:(A++[]++C).length=A.length+C.length:=by simp
 have g1:∀ i,i<A.length→gI (A++[6]++C) i=gI A i∧gI (A++[]++C) i=gI A i:=fun i hi=>⟨by rw[gI_app,if_pos (by simp;omega),gI_app,if_pos hi],by rw[List.append_nil,gI_app,if_pos hi]⟩
 have g2:gI (A++[6]++C) A.length=6:=by rw[gI_app,if_pos (by simp),gI_app,if_neg (by omega)];simp[gI]
 have g3:∀ j,gI (A++[6]++C) (A.length+1+j)=gI C j∧gI (A++[]++C) (A.length+j)=gI C j:=fun j=>⟨by rw[gI_app,if_neg (by simp)];congr 1;simp,by rw[List.append_nil,gI_app,if_neg (by omega)];congr 1;omega⟩
 refine⟨rfl,?_,fun i hi=>?_⟩
 ·rw[l1,l2];simp only;split <;> omega
 ·rw[l1] at hi
  rw[l2]
  simp only
  by_cases h1:i<A.length
  ·left
   rw[if_pos (by omega),if_pos (by omega),(g1 i h1).1,(g1 i h1).2]
   exact⟨by omega,rfl,rfl⟩
  ·by_cases h2:i=A.length
   ·right
    subst h2
    rw[if_pos (Nat.le_refl _),if_neg (by omega),g2]
    refine⟨fun h=>?_,rfl,by omega⟩
    have:=hC _ (List.mem_of_getElem? (gI_get C 0 (by omega)))
    have e:=(g3 0).2
    rw[Nat.add_zero] at e
    rw[e]
    omega
   ·left
    obtain⟨j,rfl⟩:∃ j,i=A.length+1+j:=⟨i - A.length - 1,by omega⟩
    rw[if_neg (by omega),if_neg (by omega),show A.length+1+j - 1=A.length+j by omega,(g3 j).1,(g3 j).2]
    exact⟨by omega,rfl,by omega⟩
theorem twoB_any (s:ByteArray) (b c:Int) (h:b≤c):∃ f,TwoF (checkA s b) (checkA s c) f:=by
 obtain⟨A,C,hA,hC,h1|h1⟩:=check_parts s
 ·rw[h1,h1];exact⟨_,two_same _⟩
 ·rw[h1,h1]
  have hm:budA (decH (blCc s)).1 b=true→budA (decH (blCc s)).1 c=true:=by
   unfold budA;simp only[Bool.and_eq_true,decide_eq_true_eq];omega
  generalize budA (decH (blCc s)).1 b=x at *
  generalize budA (decH (blCc s)).1 c=y at *
  cases x with
  | true=>rw[hm rfl];exact⟨_,two_same _⟩
  | false=>cases y with
   | true=>exact⟨_,two_less A C hC⟩
   | false=>exact⟨_,two_same _⟩
theorem up_at {l:List Int} (h:l.Pairwise (·<·)) {i:Nat} (hi:i+1<l.length):gI l i<gI l (i+1):=by
 have:=List.pairwise_iff_getElem.1 h i (i+1) (by omega) hi (by omega)
 have e1:=gI_get l i (by omega)
 have e2:=gI_get l (i+1) hi
 rw[List.getElem?_eq_getElem (by omega)] at e1
 rw[List.getElem?_eq_getElem hi] at e2
 rw[← Option.some.inj e1,← Option.some.inj e2]
 exact this
theorem rises_at (s:ByteArray) (b:Int):(∀ i,i<(checkA s b).length→1≤gI (checkA s b) i∧gI (checkA s b) i≤15∧(gI (checkA s b) i=1→(checkA s b).length=1))∧∀ i,i+1<(checkA s b).length→gI (checkA s b) i<gI (checkA s b) (i+1)∧gI (checkA s b) i≠7:=by
 obtain⟨h1,h2⟩:=check_up s b
 have hh:=check_head s b
 have hr:=check_root s b
 generalize checkA s b=l at *
 have hm:∀ i,i<l.length→gI l i ∈ l:=fun i hi=>List.mem_of_getElem? (gI_get l i hi)
 refine⟨fun i hi=>⟨(h2 _ (hm i hi)).1,(h2 _ (hm i hi)).2,fun e=>?_⟩,fun i hi=>⟨up_at h1 hi,fun e=>?_⟩⟩
 ·have:=hm i hi
  rw[e] at this
  rw[hh this];rfl
 ·have h7:=hm i (by omega)
  rw[e] at h7
  have:=hr h7 _ (hm (i+1) hi)
  have:=up_at h1 hi
  omega
end Go.Proofs.YtjkgkmmkehnggaaGreatDoor
