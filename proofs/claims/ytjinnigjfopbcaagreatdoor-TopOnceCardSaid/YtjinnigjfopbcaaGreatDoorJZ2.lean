/- Kt Ku. -/
import Derived.Test.YtjinnigjfopbcaaGreatDoorJs
import Derived.Test.YtjinnigjfopbcaaGreatDoorJZ1
set_option maxHeartbeats 16000000
namespace Go.Proofs.YtjinnigjfopbcaaGreatDoor
set_option linter.unusedVariables false
set_option linter.unusedSimpArgs false
open Go.RowKit
set_option maxRecDepth 100000
theorem xl8 {ts:List ByteArray} {e e':En} (h:OkE e ts) (h':OkE e' ts):(decide (e.off=e'.off) && decide (e.ln=e'.ln))=decide (txN e (xbU ts)=txN e' (xbU ts)):=by
 obtain⟨s,hs,hl⟩:=h.txt
 obtain⟨s',hs',hl'⟩:=h'.txt
 have hm:=h.may
 have hm':=h'.may
 unfold xaO at hm hm'
 have h1:=xfC hs hl
 have h2:=xfC hs' hl'
 rw[Bool.eq_iff_iff,Bool.and_eq_true,decide_eq_true_iff,decide_eq_true_iff,decide_eq_true_iff]
 constructor
 ·rintro⟨a,b⟩
  unfold txN
  rw[a,b]
 ·intro ht
  rw[h1,h2] at ht
  subst ht
  rw[hs] at hs'
  injection hs' with hx
  exact⟨by omega,by rw[hl,hl']⟩
structure HasT (L:List It) (i:Nat) (e:En):Prop where
 mem:e ∈ (xad L).1
 txt:∃ t,L[i]?=some t∧txN e (xbU (xad L).2)=t.2
theorem xqw {L:List It} (hr:xeu L) {i:Nat} {t u:It} (h:L[i]?=some t) (hu:u ∈ L) (he:u.1=t.1):u=t:=by
 obtain⟨j,hj⟩:=List.mem_iff_getElem?.1 hu
 rcases Nat.lt_trichotomy i j with h1|h1|h1
 ·have:=List.pairwise_iff_getElem.1 hr i j (List.getElem?_eq_some_iff.1 h).1 (List.getElem?_eq_some_iff.1 hj).1 h1
  rw[(List.getElem?_eq_some_iff.1 h).2,(List.getElem?_eq_some_iff.1 hj).2] at this
  omega
 ·subst h1
  rw[h] at hj
  injection hj with hj
  exact hj.symm
 ·have:=List.pairwise_iff_getElem.1 hr j i (List.getElem?_eq_some_iff.1 hj).1 (List.getElem?_eq_some_iff.1 h).1 h1
  rw[(List.getElem?_eq_some_iff.1 h).2,(List.getElem?_eq_some_iff.1 hj).2] at this
  omega
theorem xfw {L:List It} (hg:GoodC L):RInv L (xad L).1 (xad L).2:=by
 have h:=xcW hg L.length (Nat.le_refl _)
 rw[List.take_length] at h
 exact h
theorem xt4 {L:List It} (hg:GoodC L) {i:Nat} {t:It} (h:L[i]?=some t) {e:En} (he:e ∈ (xad L).1) (hh:xlf e (t.1:Int)=true):HasT L i e:=by
 have R:=xfw hg
 have ok:=R.ok e he
 obtain⟨u,hu,hx⟩:=(xnR e (xbU (xad L).2) ok.may ok.ck t.1).1 hh
 have hm:u ∈ L:=by
  rw[← R.exp]
  unfold xd7
  exact List.mem_flatMap.2 ⟨e,he,hu⟩
 have:=xqw hg.rise h hm hx
 subst this
 obtain⟨k,_,hk⟩:=(xdD e _ _).1 hu
 exact⟨he,_,h,by rw[hk]⟩
theorem xrl {L:List It} (hg:GoodC L) {i:Nat} {t:It} (h:L[i]?=some t):∃ e ∈ (xad L).1,xlf e (t.1:Int)=true:=by
 have R:=xfw hg
 have hm:=List.mem_of_getElem? h
 rw[← R.exp] at hm
 unfold xd7 at hm
 obtain⟨e,he,hu⟩:=List.mem_flatMap.1 hm
 have ok:=R.ok e he
 exact⟨e,he,(xnR e (xbU (xad L).2) ok.may ok.ck t.1).2 ⟨t,hu,rfl⟩⟩
theorem xry {L:List It} (hg:GoodC L) {i:Nat} {t:It} (h:L[i]?=some t) (f:Bool) (hfb:f=true↔∀ k u,k<i→L[k]?=some u→u.2≠t.2):totF (xad (L.take (i+1))).2=totF (xad (L.take i)).2+(if f then t.2.size else 0):=by
 have hi:=(List.getElem?_eq_some_iff.1 h).1
 have R:=xcW hg i (Nat.le_of_lt hi)
 have hm:=List.mem_of_getElem? h
 have hp:=hg.pos t hm
 have hs:=hg.short t hm
 have hf:=hg.few
 have hl:=R.len
 rw[List.length_take] at hl
 have e1:(xad (L.take (i+1))).2=xbK (xad (L.take i)).2 t.2:=by rw[xda L i t h];rfl
 rw[e1]
 have hiff:(∀ k u,k<i→L[k]?=some u→u.2≠t.2)↔t.2 ∉ (xad (L.take i)).2:=by
  rw[R.mem]
  constructor
  ·rintro hx ⟨u,hu,hut⟩
   obtain⟨k,hk⟩:=List.mem_iff_getElem?.1 hu
   have hki:k<i:=by have:=(List.getElem?_eq_some_iff.1 hk).1;rw[List.length_take] at this;omega
   rw[List.getElem?_take_of_lt hki] at hk
   exact hx k u hki hk hut
  ·intro hx k u hk hu hut
   exact hx ⟨u,List.mem_of_getElem? (by rw[List.getElem?_take_of_lt hk];exact hu),hut⟩
 generalize (xad (L.take i)).2=ts at *
 unfold xbK xcb eV
 by_cases hin:t.2 ∈ ts
 ·have hf0:f=false:=by
   cases f with
   | false=>rfl
   | true=>exact absurd hin (hiff.1 (hfb.1 rfl))
  have h2:(xaN t.2 ts 0).isNone=false:=by
   have:=(xcS t.2 ts 0).2 hin
   cases hq:xaN t.2 ts 0 with
   | none=>rw[hq] at this;cases this
   | some k=>rfl
  rw[h2,Bool.and_false,hf0]
  rfl
 ·have hf1:f=true:=hfb.2 (hiff.2 hin)
  have h2:=(xc4 t.2 ts 0).2 hin
  rw[h2]
  have h3:¬ 2048≤ts.length:=by omega
  have h4:¬ t.2.size=0:=by omega
  have h5:¬ 65536<t.2.size:=by omega
  simp[h3,h4,h5,hf1,xcl,totF]
theorem xuR {L:List It} {b k:Int} {t y:ByteArray} {X:Hd} {p:Pt} (h:WholeP L b k t y X p):nvR y=((xad L).1,xbU (xad L).2,0):=by
 obtain⟨n,hd⟩:=h.dec
 unfold nvR nvD
 rw[h.cut]
 dsimp only
 rw[hd]
 dsimp only
 rw[h.join]
 dsimp only
 simp[h.d3]
end Go.Proofs.YtjinnigjfopbcaaGreatDoor
namespace Go.Proofs.YtjinnigjfopbcaaGreatDoor
set_option linter.unusedVariables false
set_option linter.unusedSimpArgs false
open Go.RowKit Go.Maps
set_option maxRecDepth 100000
def xwP (L:List It) (E:List En):Prop:=∀ j e,E[j]?=some e→HasT L j e
theorem toponce_law (v:Value) (l:List It) (w:World) (hq:QTab w) (hv:ItsAt w v l) (hm:∀ e ∈ l,e.1<18446744073709551616∧e.2.size≤maxLen) :
  Calls Tryz.prog 8 #[v] w fun e w'=>e=.returned (.bool true)∧Below w.heap.size w w':=by
 have HQ:=lH (fun W (hb:Below w.heap.size w W)=>hq.below hb)
 have HAW:=lH (fun W (hb:Below w.heap.size w W)=>xma W (hq.below hb))
 have HOV:=lH (xpj v l 60 3000 w hv (fun e he=>(hm e he).2) (by omega) (by omega))
 have HOW:=lH (fun(hl:l.length≤10000)=>xsm v l w hv hl (fun e he=>(hm e he).1) (fun e he=>(hm e he).2))
 obtain⟨ov,hov⟩:∃ ov,xho l 60 3000=ov:=⟨_,rfl⟩
 rw[hov] at HOV
 clear hq hv hm
 cases ov with
 | true =>
  clear hov
  go_enter Tryz.func8,Tryz.ntmps8
  go_wp2_with fail
  refine HOV.out.mono ?_
  rintro e w1 ⟨rfl,rfl⟩
  go_wp2_with fail
  refine(HAW.out _ (Below.refl _ _)).mono ?_
  rintro e wz ⟨rfl,hbz⟩
  have HBZ:=lH hbz
  clear hbz
  go_wp2_with fail
  go_ret
  exact⟨rfl,HBZ.out⟩
 | false =>
  obtain⟨bl,ll⟩:=xqO hov
  clear hov
  go_enter Tryz.func8,Tryz.ntmps8
  go_wp2_with fail
  refine HOV.out.mono ?_
  rintro e w1 ⟨rfl,hw1⟩
  subst hw1
  go_wp2_with fail
  refine(HOW.out (by omega)).mono ?_
  rintro e w2 ⟨s,d,rfl,hch,hd,hb2⟩
  obtain⟨a5,n5,p5,rfl⟩:=hch.form
  have hal:(xr7 l).length≤60:=by have:=xm3 l [];unfold xr7;simp at this;omega
  have hab:xan (xr7 l)≤3000:=by have:=xic l [];unfold xr7;simp[xan] at this;omega
  generalize hac:xr7 l=L at *
  have b5:=xae w2 (.cells #[.slice a5 n5 p5] 36)
  have hx2:=hb2.trans (b5.mono hb2.size)
  have HS:=lH (And.intro (xaP w2 (.slice a5 n5 p5) 36) (And.intro (hch.below b5) hx2))
  have HG:=lH hch.good
  clear hch hd hb2 b5 hx2 HOV HOW hac bl ll
  go_upto_region 4 with fail
  generalize w2.alloc (.cells #[.slice a5 n5 p5] 36)=w3 at *
  generalize w2.heap.size=g3 at *
  have q3:=HS.out.1.cell
  have htT:totF (xad L).2≤3000:=by have:=xgg L;omega
  obtain⟨y,X,p,hP,WP⟩:=xrp (b:=512) (k:=0) (s:=obT) HG.out (show L.length≤150 by omega) (by unfold U8;omega) (by decide) (by omega) xu9
  have HPR:=lH (xes (.slice a5 n5 p5) L w3 (HQ.out _ HS.out.2.2) HS.out.2.1 (by omega))
  rw[hP] at HPR
  dsimp only at HPR
  have HNR:=lH (fun W=>xhJ y W WP.sz)
  unfold xpW at HNR
  rw[xuR WP] at HNR
  dsimp only at HNR
  clear WP hP
  go_wp2_with fail
  refine HPR.out.mono ?_
  rintro e w4 ⟨rfl,hb4⟩
  have HS4:=lH (And.intro (HS.out.1.below hb4) (And.intro (HS.out.2.1.below hb4) (HS.out.2.2.trans (hb4.mono HS.out.2.2.size))))
  clear hb4 HS HPR q3
  go_wp2_with fail
  refine(HNR.out _).mono ?_
  rintro e w5 ⟨v5,rfl,he5,hb5⟩
  have HS5:=lH (And.intro (HS4.out.1.below hb5) (And.intro (HS4.out.2.1.below hb5) (HS4.out.2.2.trans (hb5.mono HS4.out.2.2.size))))
  have HE5:=lH he5
  obtain⟨a6,c6,rfl⟩:=xag he5
  have q5:=HS5.out.1.cell
  have HIT:=lH (xol _ L w5 HS5.out.2.1)
  clear hb5 he5 HS4 HNR
  go_wp2_with fail
  refine HIT.out.mono ?_
  rintro e w6 ⟨v6,rfl,hi6,hb6⟩
  have HB6:=lH (HS5.out.2.2.trans (hb6.mono HS5.out.2.2.size))
  have HE6:=lH (HE5.out.below hb6)
  have HI6:=lH hi6
  obtain⟨a7,c7,rfl⟩:∃ a c,v6=.slice a L.length c:=by
   obtain⟨a,c,e,_⟩:=hi6
   exact⟨a,c,e⟩
  have RV:=lH (xfw HG.out)
  have hrl:(xad L).1.length≤60:=by have:=RV.out.few;omega
  clear hi6 hb6 HIT HS5 HE5 q5
  go_wp2_with fail
  go_loopw [11,12,13] (fun at_ sm ix wr=>∃ (i:Nat) (E:List En) (av:Option Addr) (cv:Nat),i≤L.length∧ix=.int .i64 i∧E.length=i∧sm=.int .i64 (totF (xad (L.take i)).2:Nat)∧at_=.slice av E.length cv∧Hid (xa1 wr w6.heap.size 74 (.slice av E.length cv) E)∧Hid (xwP L E)∧Hid (Below w6.heap.size w6 wr)) (fun _ _ ix _=>L.length - (intOf ix).toNat)
  case atStart=>exact⟨0,[],none,0,Nat.zero_le _,rfl,rfl,rfl,rfl,lH (xbG _ _ _),lH (fun j e h=>by simp at h),lH (Below.refl _ _)⟩
  case round =>
   obtain⟨i,E,av,cv,hi,rfl,hEl,rfl,rfl,HO,HGT,HBX⟩:=hrel
   generalize wr=wo at *
   have HEL:=lH hEl
   by_cases hlt:i<L.length
   ·obtain⟨⟨x,xt⟩,ht⟩:∃ t,L[i]?=some t:=⟨_,List.getElem?_eq_getElem hlt⟩
    have hi2:(i:Int)<(L.length:Int):=by omega
    have HT:=lH ht
    obtain⟨em,hem1,hem2⟩:=xrl HG.out ht
    obtain⟨a',c',hav,_,_,hcc⟩:=HI6.out
    obtain⟨g,off,rfl,hg,k0,k1⟩:=hcc i (x,xt) ht
    cases hav
    have HCT:=lH (fun X (hX:Below w6.heap.size w6 X)=>And.intro ((hX.cell (p:=⟨g,off+i*2,none⟩) hg).trans k0) ((hX.cell (p:=⟨g,off+i*2+1,none⟩) hg).trans k1))
    have HCA:=lH (fun X (hX:Below w6.heap.size w6 X) j u (hu:L[j]?=some u)=>(hX.cell (p:=⟨g,off+j*2+1,none⟩) hg).trans (by obtain⟨g2,o2,e2,_,_,r1⟩:=hcc j u hu;cases e2;exact r1))
    have HEM:=lH (And.intro hem1 hem2)
    have HTS:=lH (fun f hf=>xry HG.out ht f hf)
    have HTB:Hid (totF (xad (L.take (i+1))).2≤3000):=lH (by
     have h1:=xgg (L.take (i+1))
     have h2:=xa2 (L.take (i+1)) (L.drop (i+1))
     rw[List.take_append_drop] at h2
     omega)
    generalize totF (xad (L.take i)).2=tI at *
    clear hem1 hem2 hcc k0 k1 ht hEl
    obtain⟨ar,nr,cr,hvr⟩:∃ a n c,(Value.slice a6 (xad L).1.length c6)=.slice a n c:=⟨_,_,_,rfl⟩
    clear hvr
    go_wp2_with fail
    go_loopw [14,15] (fun nn kk wx=>∃ (k:Nat) (z:Int),k≤(xad L).1.length∧kk=.int .i64 k∧nn=.int .i64 z∧Hid ((z=-1∧∀ j e,j<k→(xad L).1[j]?=some e→xlf e x=false)∨∃ j e,j<k∧z=(j:Nat)∧(xad L).1[j]?=some e∧xlf e x=true)∧Hid (Below wo.heap.size wo wx)) (fun _ kk _=>(xad L).1.length - (intOf kk).toNat)
    case atStart=>exact⟨0,-1,Nat.zero_le _,rfl,rfl,lH (.inl ⟨rfl,fun j e h=>by omega⟩),lH (Below.refl _ _)⟩
    case round =>
     obtain⟨k,z,hk,rfl,rfl,HZ,HBK⟩:=hrel
     generalize wr=wx at *
     have HX:=lH (HBX.out.trans (HBK.out.mono HBX.out.size))
     by_cases hkl:k<(xad L).1.length
     ·obtain⟨e,he⟩:∃ e,(xad L).1[k]?=some e:=⟨_,List.getElem?_eq_getElem hkl⟩
      have HE:=lH he
      have HHS:=lH (fun W=>xqQ e (x:Int) W (RV.out.ok e (List.mem_of_getElem? he)).may)
      obtain⟨a8,c8,hav8,_,_,hcc8⟩:=HE6.out.below HX.out
      obtain⟨g8,o8,rfl,hg8,m0,m1,m2,m3⟩:=hcc8 k e he
      cases hav8
      have hk2:(k:Int)<((xad L).1.length:Int):=by omega
      obtain⟨c0,c1⟩:=HCT.out _ HX.out
      obtain⟨b,hb⟩:∃ b,xlf e (x:Int)=b:=⟨_,rfl⟩
      rw[hb] at HHS
      have HB:=lH hb
      unfold eC at HHS
      clear he hcc8 hb
      cases b with
      | true =>
       go_wp2_with fail
       go_region_with (go_at_call 35;refine(HHS.out _).mono ?_;rintro e9 w9 ⟨rfl,hb9⟩;have hbB:Below wx.heap.size wx w9:=Below.trans (by go_grown:Below wx.heap.size wx _) (hb9.mono (by simp)))
       all_goals
        have HB9:=lH (HBK.out.trans (hbB.mono HBK.out.size))
        clear hbB hb9 m0 m1 m2 m3 c0 c1
        go_wp2_with fail
        go_roundw
        case rel=>exact⟨k+1,(k:Nat),by omega,by go_num,rfl,lH (.inr ⟨k,e,by omega,rfl,HE.out,HB.out⟩),HB9⟩
        case measure=>simp[intOf];omega
      | false =>
       go_wp2_with fail
       go_region_with (go_at_call 35;refine(HHS.out _).mono ?_;rintro e9 w9 ⟨rfl,hb9⟩;have hbB:Below wx.heap.size wx w9:=Below.trans (by go_grown:Below wx.heap.size wx _) (hb9.mono (by simp)))
       all_goals
        have HB9:=lH (HBK.out.trans (hbB.mono HBK.out.size))
        clear hbB hb9 m0 m1 m2 m3 c0 c1
        go_wp2_with fail
        go_roundw
        case rel =>
         refine⟨k+1,z,by omega,by go_num,rfl,lH ?_,HB9⟩
         rcases HZ.out with ⟨h1,h2⟩|⟨j,e2,h1,h2,h3,h4⟩
         ·refine .inl ⟨h1,fun j e2 hj he2=>?_⟩
          rcases Nat.lt_or_ge j k with h|h
          ·exact h2 j e2 h he2
          ·obtain rfl:j=k:=by omega
           have:=HE.out
           rw[he2] at this
           injection this with this
           rw[this]
           exact HB.out
         ·exact .inr ⟨j,e2,by omega,h2,h3,h4⟩
        case measure=>simp[intOf];omega
     ·obtain rfl:k=(xad L).1.length:=by omega
      obtain⟨q,e,hq,rfl,heq,hhe⟩:∃ q e,q<(xad L).1.length∧z=(q:Nat)∧(xad L).1[q]?=some e∧xlf e x=true:=by
       rcases HZ.out with ⟨h1,h2⟩|h
       ·obtain⟨j,hj⟩:=List.mem_iff_getElem?.1 HEM.out.1
        have h3:=h2 j em (List.getElem?_eq_some_iff.1 hj).1 hj
        have h4:=HEM.out.2
        rw[h3] at h4
        cases h4
       ·exact h
      have HIT:=lH (xt4 HG.out HT.out (List.mem_of_getElem? heq) hhe)
      have HEQ:=lH heq
      have hq0:¬ (q:Int)<0:=by omega
      have hq1:(q:Int)<((xad L).1.length:Int):=by omega
      have HO8:=lH (HO.out.below HBK.out)
      clear HZ HBK heq hhe hk hkl HO HBX
      go_wp2_with fail
      go_loopw [16,17] (fun ff kk wy=>∃ (k:Nat) (f:Bool),k≤i∧kk=.int .i64 k∧ff=.bool f∧Hid (f=true↔∀ j u,j<k→L[j]?=some u→u.2≠xt)∧Hid (Below wx.heap.size wx wy)) (fun _ kk _=>i - (intOf kk).toNat)
      case atStart=>exact⟨0,true,Nat.zero_le _,rfl,rfl,lH ⟨fun _ j u hj=>by omega,fun _=>rfl⟩,lH (Below.refl _ _)⟩
      case round =>
       obtain⟨k,f,hk,rfl,rfl,HF,HBY⟩:=hrel
       generalize wr=wy at *
       have HY:=lH (HX.out.trans (HBY.out.mono HX.out.size))
       by_cases hki:k<i
       ·obtain⟨e1,he1⟩:∃ e1,E[k]?=some e1:=⟨_,List.getElem?_eq_getElem (by have:=HEL.out;omega)⟩
        have HG1:=HGT.out k e1 he1
        obtain⟨⟨xk,tj9⟩,htk,htx⟩:=HG1.txt
        dsimp only at htx
        obtain⟨u,hu,hux⟩:=HIT.out.txt
        have hut:u=(x,xt):=by have:=HT.out;rw[hu] at this;injection this
        subst hut
        dsimp only at hux
        have HPL:=lH (xl8 (RV.out.ok e1 HG1.mem) (RV.out.ok e HIT.out.mem))
        rw[htx,hux] at HPL
        obtain⟨a8,c8,hav8,_,_,hcc8⟩:=(HO8.out.below HBY.out).ensAt
        obtain⟨g8,o8,rfl,hg8,m0,m1,m2,m3⟩:=hcc8 k e1 he1
        cases hav8
        obtain⟨a9,c9,hav9,_,_,hcc9⟩:=HE6.out.below HY.out
        obtain⟨g9,o9,rfl,hg9,n0,n1,n2,n3⟩:=hcc9 q e HEQ.out
        cases hav9
        obtain⟨c0,c1⟩:=HCT.out _ HY.out
        have c2:=HCA.out _ HY.out k (xk,tj9) htk
        dsimp only at c2
        have HTJ:=lH htk
        have hk2:(k:Int)<(i:Int):=by omega
        have hk3:(k:Int)<(E.length:Int):=by have:=HEL.out;omega
        have hk4:(k:Int)<(L.length:Int):=by omega
        have HNX:Hid (tj9≠xt→∀ j u,j<k+1→L[j]?=some u→(∀ j u,j<k→L[j]?=some u→u.2≠xt)→u.2≠xt):=lH (fun h j u hj hu hall=>by
         rcases Nat.lt_or_ge j k with h1|h1
         ·exact hall j u h1 hu
         ·obtain rfl:j=k:=by omega
          have:=HTJ.out
          rw[hu] at this
          injection this with this
          rw[this]
          exact h)
        obtain⟨eo,hko⟩:∃ v,e.off=v:=⟨_,rfl⟩
        obtain⟨el,hkl⟩:∃ v,e.ln=v:=⟨_,rfl⟩
        obtain⟨fo,hk5⟩:∃ v,e1.off=v:=⟨_,rfl⟩
        obtain⟨fl,hk6⟩:∃ v,e1.ln=v:=⟨_,rfl⟩
        rw[hko,hkl,hk5,hk6] at HPL
        rw[hk5] at m1
        rw[hk6] at m2
        rw[hko] at n1
        rw[hkl] at n2
        clear hko hkl hk5 hk6 hcc8 hcc9 he1 htk htx hu hux m0 m3 n0 n3 c0 hki HG1
        by_cases p1:fo=eo
        ·have d1:(fo == eo)=true:=by simpa using p1
         by_cases p2:fl=el
         ·have d2:(fl == el)=true:=by simpa using p2
          have hte:tj9=xt:=by
           have:=HPL.out
           rw[decide_eq_true p1,decide_eq_true p2] at this
           exact of_decide_eq_true this.symm
          have hst:=xiZ hte
          clear p1 p2 HPL
          go_wp2_with fail
          go_region
          all_goals
           go_wp2_with fail
           go_region
           all_goals
            cases f <;> go_wp2_with fail
            all_goals
             go_roundw
             case rel=>exact⟨k+1,false,by omega,by go_num,rfl,lH ⟨fun h=>(by cases h),fun h=>absurd hte (h k (xk,tj9) (by omega) HTJ.out)⟩,lH (HBY.out.trans (by go_grown))⟩
             case measure=>simp[intOf];omega
         ·have d2:(fl == el)=false:=by simpa using p2
          have hne:tj9≠xt:=by
            have:=HPL.out
            rw[decide_eq_true p1,decide_eq_false p2] at this
            simpa using this.symm
          have hst:=xj5 hne
          have HFN:Hid (f=true↔∀ j u,j<k+1→L[j]?=some u→u.2≠xt):=lH ⟨fun h j u hj hu=>HNX.out hne j u hj hu (HF.out.1 h),fun hall=>HF.out.2 (fun j u hj hu=>hall j u (by omega) hu)⟩
          clear p1 p2 HPL hne
          go_wp2_with fail
          go_region
          all_goals
           go_wp2_with fail
           go_region
           all_goals
            cases f <;> go_wp2_with fail
            all_goals
             go_roundw
             case rel=>exact⟨k+1,_,by omega,by go_num,rfl,HFN,lH (HBY.out.trans (by go_grown))⟩
             case measure=>simp[intOf];omega
        ·have d1:(fo == eo)=false:=by simpa using p1
         have hne:tj9≠xt:=by
           have:=HPL.out
           rw[decide_eq_false p1,Bool.false_and] at this
           simpa using this.symm
         have hst:=xj5 hne
         have HFN:Hid (f=true↔∀ j u,j<k+1→L[j]?=some u→u.2≠xt):=lH ⟨fun h j u hj hu=>HNX.out hne j u hj hu (HF.out.1 h),fun hall=>HF.out.2 (fun j u hj hu=>hall j u (by omega) hu)⟩
         clear p1 HPL hne
         go_wp2_with fail
         go_quiet (fail)
         all_goals
          go_wp2_with fail
          go_region
          all_goals
           cases f <;> go_wp2_with fail
           all_goals
            go_roundw
            case rel=>exact⟨k+1,_,by omega,by go_num,rfl,HFN,lH (xdu HBY.out _)⟩
            case measure=>simp[intOf];omega
       ·obtain rfl:k=i:=by omega
        obtain⟨c0,c1⟩:=HCT.out _ HY.out
        obtain⟨a9,c9,hav9,_,_,hcc9⟩:=HE6.out.below HY.out
        obtain⟨g9,o9,rfl,hg9,n0,n1,n2,n3⟩:=hcc9 q e HEQ.out
        cases hav9
        have HO9:=lH (HO8.out.below HBY.out)
        have hba:=xae wy (.cells (eC e) 74)
        have hea:=EAt.made wy e 74
        obtain⟨v8,w8,hr8,ho8,hg8,hl8⟩:=xey (wy.alloc (.cells (eC e) 74)) 27 w6.heap.size (.slice av E.length cv) E e wy.heap.size 1 (HO9.out.below hba) hea (by have:=HEL.out;omega) (by have:=HY.out.size;simp;omega)
        have HB8:=lH ((HY.out.trans (hba.mono HY.out.size)).grown hg8 (by have:=HY.out.size;simp;omega) (fun j hj=>(HO9.out.lt j hj).1))
        obtain⟨a8,c8,hv8⟩:=xag ho8.ensAt
        subst hv8
        have HOO:=lH ho8
        have HGN:Hid (xwP L (E++[e])):=lH (fun j e2 hj=>by
         rcases Nat.lt_or_ge j E.length with h|h
         ·rw[List.getElem?_append_left h] at hj
          exact HGT.out j e2 hj
         ·rw[List.getElem?_append_right h] at hj
          have h2:j=k:=by
           have h3:=HEL.out
           have h4:=(List.getElem?_eq_some_iff.1 hj).1
           simp at h4
           omega
          subst h2
          have h5:j - E.length=0:=by have:=HEL.out;omega
          rw[h5] at hj
          injection hj with hj
          rw[← hj]
          exact HIT.out)
        have HLN:Hid ((E++[e]).length=k+1):=lH (by rw[List.length_append,HEL.out];rfl)
        have HST:=lH (HTS.out f HF.out)
        unfold eC at hr8
        clear hcc9 ho8 hg8 hl8 hea hba hk
        cases f with
        | true =>
         have hsum:=HST.out
         have htb:=HTB.out
         simp only[if_true] at hsum
         have hw:IntKind.i64.wrap ((tI:Int)+(xt.size:Int))=((tI+xt.size:Nat):Int):=by rw[IntKind.wrap_i64] <;> omega
         clear hsum htb
         go_wp2_with (first|(at_builtin;refine Lib.wpList_append_run _ rfl _ _ _ _ rfl _ _ rfl rfl _ _ hr8 ?_)|fail)
         go_roundw
         case rel=>exact⟨k+1,E++[e],a8,c8,by omega,by go_num,HLN.out,by rw[HST.out];simp,by rw[List.length_append];rfl,HOO,HGN,HB8⟩
         case measure=>simp[intOf];omega
        | false =>
         go_wp2_with (first|(at_builtin;refine Lib.wpList_append_run _ rfl _ _ _ _ rfl _ _ rfl rfl _ _ hr8 ?_)|fail)
         go_roundw
         case rel=>exact⟨k+1,E++[e],a8,c8,by omega,by go_num,HLN.out,by rw[HST.out];simp,by rw[List.length_append];rfl,HOO,HGN,HB8⟩
         case measure=>simp[intOf];omega
   ·obtain rfl:i=L.length:=by omega
    have hi2:¬ ((L.length:Nat):Int)<((L.length:Nat):Int):=by omega
    rw[List.take_length]
    have hez:(((totF (xad L).2:Nat):Int) == ((xbU (xad L).2).size:Int))=true:=by rw[xdJ];simp
    have HBW:=lH (HB6.out.trans (HBX.out.mono HB6.out.size))
    generalize totF (xad L).2=tA at *
    generalize xbU (xad L).2=dA at *
    clear HO HGT
    go_wp2_with fail
    refine(HAW.out _ HBW.out).mono ?_
    rintro e9 w9 ⟨rfl,hb9⟩
    have HB9:=lH (HBW.out.trans (hb9.mono HBW.out.size))
    clear hb9 HAW
    go_wp2_with fail
    go_ret
    exact⟨rfl,HB9.out⟩
end Go.Proofs.YtjinnigjfopbcaaGreatDoor
