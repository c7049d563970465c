/- Ka Kb Za Zg Zh Zj Kh Zb Zc Zd Ze Qk Ql Qh Kj. -/
import Derived.Test.YtjinnigjfopbcaaGreatDoorJs
import Derived.Test.YtjinnigjfopbcaaGreatDoorJd1
import Derived.Test.YtjinnigjfopbcaaGreatDoorJb7
import Derived.Test.YtjinnigjfopbcaaGreatDoorJc5
import Derived.Test.YtjinnigjfopbcaaGreatDoorJa9
set_option maxHeartbeats 16000000
namespace Go.Proofs.YtjinnigjfopbcaaGreatDoor
set_option linter.unusedVariables false
set_option linter.unusedSimpArgs false
open Go.RowKit
set_option maxRecDepth 20000
def nvD (s:ByteArray):List En × Nat × Int:=xbR (xaV s).p.p0.data.toList
def nvR (s:ByteArray):List En × ByteArray × Int :=
 if (xaV s).err≠0 then ([],noB,(xaV s).err) else if (nvD s).2.2≠0 then ([],noB,(nvD s).2.2) else
 if (xcr (nvD s).1 (xaV s).p.p2).2≠0 then ([],noB,(xcr (nvD s).1 (xaV s).p.p2).2) else ((xcr (nvD s).1 (xaV s).p.p2).1,(xaV s).p.p3,0)
def nvC (s:ByteArray):List It × Int:=if (nvR s).2.2≠0 then ([],(nvR s).2.2) else xeO (nvR s).1 (nvR s).2.1
theorem xiS:∀ (l:List En) (d:ByteArray) (out:List En),xay l→xay out→xay (goJ l d out).1
 | [],d,out,_,ho=>by rw[goJ];exact ho
 | e :: l,d,out,hl,ho=>by
  have h:=xkq (e :: l) 0 e d out rfl
  rw[List.drop_zero] at h
  rw[h]
  have hl2:xay l:=fun x hx=>hl x (List.mem_cons_of_mem _ hx)
  split
  ·exact xiS l d _ hl2 (fun x hx=>by rcases List.mem_append.1 hx with h|h;exact ho x h;rw[List.mem_singleton.1 h];exact hl e (by simp))
  ·split
   ·intro x hx;simp at hx
   ·exact xiS l d _ hl2 (fun x hx=>by rcases List.mem_append.1 hx with h|h;exact ho x h;exact(xhs e d).2 x h)
theorem xoE {root:List En} {d:ByteArray} (hm:xay root):xay (xcr root d).1:=by
 unfold xcr
 split
 ·intro x hx;simp at hx
 ·split
  ·intro x hx;simp at hx
  ·split
   ·intro x hx;simp at hx
   ·exact xiS root d [] hm (fun x hx=>by simp at hx)
theorem xnF {root:List En} {d:ByteArray} (h:(xcr root d).2=0):xaC (xcr root d).1=0:=by
 unfold xcr at h ⊢
 split
 ·rfl
 ·rename_i h0
  rw[if_neg h0] at h
  split
  ·rfl
  ·rename_i h1
   rw[if_neg h1] at h
   split
   ·rfl
   ·rename_i h2
    exact Classical.not_not.1 h2
theorem xsC {s:ByteArray} (h:(nvD s).2.2=0):xay (nvD s).1:=(xcH _ h).2.1
theorem xu7 (s:ByteArray):xay (nvR s).1∧xaC (nvR s).1=0:=by
 unfold nvR
 split
 ·exact⟨fun x hx=>by simp at hx,rfl⟩
 ·split
  ·exact⟨fun x hx=>by simp at hx,rfl⟩
  ·rename_i h1
   split
   ·exact⟨fun x hx=>by simp at hx,rfl⟩
   ·rename_i h2
    exact⟨xoE (xsC (Classical.not_not.1 h1)),xnF (Classical.not_not.1 h2)⟩
theorem xnO (s:ByteArray) (a b:Int):(xmn s a b).size≤s.size:=by unfold xmn;simp only[ByteArray.size_extract];omega
theorem xqP (s:ByteArray) (hs:s.size≤1000000):(nvR s).2.1.size≤1000000:=by
 have h0:noB.size≤1000000:=by decide
 unfold nvR
 split
 ·exact h0
 ·split
  ·exact h0
  ·split
   ·exact h0
   ·unfold xaV
    split
    ·exact h0
    ·split
     ·exact h0
     ·exact Nat.le_trans (xnO s _ _) hs
def xpW (s:ByteArray) (w:World) (e:Ending) (w':World):Prop:=∃ v',e=.returned (.tuple #[v',.string (nvR s).2.1,.int .i64 (nvR s).2.2])∧xak w' v' (nvR s).1∧Below w.heap.size w w'
theorem xoH (s:ByteArray) (hs:s.size≤1000000):Few (xaV s).p 1000000:=by
 by_cases h1:(xch (xbO s)).2=0
 ·by_cases h2:xeP (xch (xbO s)).1 s.size
  ·unfold xaV;rw[if_neg (by simpa using h1),if_pos h2];exact⟨Nat.zero_le _,Nat.zero_le _,Nat.zero_le _,Nat.zero_le _⟩
  ·unfold xaV;rw[if_neg (by simpa using h1),if_neg h2]
   have hb:∀ a b,(xmn s a b).size≤s.size:=fun a b=>by unfold xmn;simp only[ByteArray.size_extract];omega
   exact⟨Nat.le_trans (hb _ _) hs,Nat.le_trans (hb _ _) hs,Nat.le_trans (hb _ _) hs,Nat.le_trans (hb _ _) hs⟩
 ·unfold xaV;rw[if_pos h1];exact⟨Nat.zero_le _,Nat.zero_le _,Nat.zero_le _,Nat.zero_le _⟩
theorem xmb:(Tryz.prog.info? 125).map (·.size)=some 4:=by kernel_rfl
theorem xhJ (s:ByteArray) (w:World) (hs:s.size≤1000000):Calls Tryz.prog 15 #[.string s] w (xpW s w):=by
 unfold xpW
 have HCT:=lH (xnl s w hs)
 unfold xop at HCT
 have hpz:=xoH s hs
 obtain⟨R,hR⟩:∃ R,nvR s=R:=⟨_,rfl⟩
 rw[hR]
 unfold nvR nvD at hR
 generalize xaV s=C at *
 obtain⟨X,p,Ce⟩:=C
 dsimp only at HCT hR hpz
 have HR:=lH hR.symm
 have HPZ:=lH hpz
 clear hR hpz
 go_enter Tryz.func15,Tryz.ntmps15
 go_wp2_with fail
 refine HCT.out.mono ?_
 rintro e w6 ⟨rfl,hb6⟩
 have HB6:=lH hb6
 clear hb6 HCT
 have TW:=xvM w6 X p
 have HSX:Hid ((Tryz.prog.info? 124).map (·.size)=some (cH X).size∧24=(cH X).size∧(cH X).all (·.oneCell')=true):=lH ⟨xar,rfl,xdY X⟩
 have HSP:Hid ((Tryz.prog.info? 125).map (·.size)=some (xiF p).size∧4=(xiF p).size∧(xiF p).all (·.oneCell')=true):=lH ⟨xmb,rfl,by simp[xiF,Value.oneCell']⟩
 obtain⟨Hc,hHc⟩:∃ Hc,cH X=Hc:=⟨_,rfl⟩
 obtain⟨P,hPc⟩:∃ P,xiF p=P:=⟨_,rfl⟩
 rw[hHc,hPc] at TW ⊢
 rw[hHc] at HSX
 rw[hPc] at HSP
 have HPc:=lH hPc
 clear hHc hPc
 unfold Z24 P4 at TW
 have HTW:=lH TW
 clear TW
 go_upto_region 2 with (first|(refine wpList_store_row rfl 124 _ _ rfl w6.heap.size Hc rfl rfl 124 _ HTW.out.s1 HSX.out.1 HSX.out.2.1 HSX.out.2.2 ?_)|(refine wpList_store_row rfl 125 _ _ rfl (w6.heap.size+1) P rfl rfl 125 _ HTW.out.s2 HSP.out.1 HSP.out.2.1 HSP.out.2.2 ?_)|fail)
 have HP:=HTW.out.e2
 have HBW:=lH (HB6.out.trans (HTW.out.e3.mono HB6.out.size))
 clear HTW HSX HSP
 generalize (((w6.alloc (.cells #[.int .u64 0,.int .u64 0,.int .u64 0,.int .u64 0,.int .u64 0,.int .u64 0,.int .u64 0,.int .u64 0,.int .u64 0,.int .u64 0,.int .u64 0,.bool false,.int .u8 0,.int .u8 0,.int .u8 0,.int .i64 0,.int .i64 0,.int .i64 0,.int .i64 0,.int .i64 0,.int .i64 0,.int .i64 0,.int .i64 0,.int .i64 0] 124)).alloc (.cells #[.string { data:=#[] },.string { data:=#[] },.string { data:=#[] },.string { data:=#[] }] 125)).setRow w6.heap.size Hc).setRow (w6.heap.size+1) P=w7 at *
 rw[← HPc.out] at HP
 have HP7:Hid (Box w7 (w6.heap.size+1) (xiF p)):=lH ⟨_,HP⟩
 have HB7:Hid (Below w.heap.size w w7):=HBW
 clear HP HPc HBW HB6
 generalize w6.heap.size=g9 at *
 by_cases h1:Ce=0
 ·subst h1
  have q0:w7.cell? ⟨g9+1,0,none⟩=some (.string p.p0):=by rw[HP7.out.cell];rfl
  have HDC:=lH (xhM p.p0 w7 (by have:=HPZ.out.1;unfold maxLen;omega))
  unfold xhx at HDC
  go_wp2_with fail
  refine HDC.out.mono ?_
  rintro e w8 ⟨v8,rfl,ho8,hb8⟩
  have HP8:=lH (HP7.out.below hb8)
  have HB8:=lH (HB7.out.trans (hb8.mono HB7.out.size))
  have HE8:=lH ho8.ensAt
  obtain⟨a8,c8,hv8⟩:=xag ho8.ensAt
  clear hb8 ho8 HP7 HB7 q0 HDC
  by_cases h2:(xbR p.p0.data.toList).2.2=0
  ·have HM:=lH (xcH _ h2).2.1
   have HL:=lH (xqH p.p0.data.toList)
   generalize xbR p.p0.data.toList=D at *
   obtain⟨l,n8,z8⟩:=D
   dsimp only at h2 HR HE8 HM HL hv8 ⊢
   subst h2
   subst hv8
   have q2:w8.cell? ⟨g9+1,2,none⟩=some (.string p.p2):=by rw[HP8.out.cell];rfl
   have HJN:=lH (xk3 _ l p.p2 w8 HE8.out HM.out HL.out HPZ.out.2.2.1)
   unfold xf2 at HJN
   go_wp2_with fail
   refine HJN.out.mono ?_
   rintro e w9 ⟨v9,rfl,he9,hb9⟩
   have HP9:=lH (HP8.out.below hb9)
   have HB9:=lH (HB8.out.trans (hb9.mono HB8.out.size))
   obtain⟨a9,c9,hv9⟩:=xag he9
   have HE9:=lH he9
   clear hb9 he9 HP8 HB8 HE8 q2 HJN HM HL
   generalize xcr l p.p2=J at *
   obtain⟨m,y⟩:=J
   dsimp only at HR HE9 hv9 ⊢
   subst hv9
   by_cases h3:y=0
   ·subst h3
    have HRR:Hid (R=(m,p.p3,0)):=lH (by rw[HR.out,if_neg (by simp),if_neg (by simp),if_neg (by simp)])
    have q3:w9.cell? ⟨g9+1,3,none⟩=some (.string p.p3):=by rw[HP9.out.cell];rfl
    have q3d:w9.drew.cell? ⟨g9+1,3,none⟩=some (.string p.p3):=q3
    go_wp2_with fail
    go_region
    all_goals
     go_wp2_with fail
     refine bodyPost_ret (results_tmp3 rfl _ _ _) rfl ⟨_,by rw[HRR.out];rfl,by rw[HRR.out];exact HE9.out.below (by go_grown),HB9.out.trans (by go_grown)⟩
   ·have e3:(y == 0)=false:=by simpa using h3
    have HRR:Hid (R=([],noB,y)):=lH (by rw[HR.out,if_neg (by simp),if_neg (by simp),if_pos h3])
    go_wp2_with fail
    refine bodyPost_ret (results_tmp3 rfl _ _ _) rfl ⟨_,by rw[HRR.out];rfl,by rw[HRR.out];exact xbb _,HB9.out⟩
  ·have HRR:Hid (R=([],noB,(xbR p.p0.data.toList).2.2)):=lH (by rw[HR.out,if_neg (by simp),if_pos h2])
   generalize (xbR p.p0.data.toList).2.2=z8 at *
   have e2:(z8 == 0)=false:=by simpa using h2
   subst hv8
   clear HR
   go_wp2_with fail
   refine bodyPost_ret (results_tmp3 rfl _ _ _) rfl ⟨_,by rw[HRR.out];rfl,by rw[HRR.out];exact xbb _,HB8.out⟩
 ·have e1:(Ce == 0)=false:=by simpa using h1
  have HRR:Hid (R=([],noB,Ce)):=lH (by rw[HR.out,if_pos h1])
  clear HR
  go_wp2_with fail
  refine bodyPost_ret (results_tmp3 rfl _ _ _) rfl ⟨_,by rw[HRR.out];rfl,by rw[HRR.out];exact xbb _,HB7.out⟩
theorem xmE (s:ByteArray) (w:World) (hs:s.size≤1000000):Calls Tryz.prog 17 #[.string s] w fun e w'=>∃ s',e=.returned (.tuple #[.agg #[s'],.int .i64 (nvC s).2])∧ChS w' s' (nvC s).1∧Below w.heap.size w w':=by
 have HN:=lH (fun W=>xhJ s W hs)
 unfold xpW at HN
 obtain⟨hm,hr⟩:=xu7 s
 obtain⟨R,hR⟩:∃ R,nvC s=R:=⟨_,rfl⟩
 have hd:=xqP s hs
 rw[hR]
 unfold nvC at hR
 generalize nvR s=D at *
 obtain⟨l,d,z⟩:=D
 dsimp only at *
 have HR:=lH hR.symm
 have HM:=lH (And.intro hm hd)
 have O1:=lH (xaP w (.slice none 0 0) 36)
 have B1:=lH (xae w (.cells #[.slice none 0 0] 36))
 clear hm hr hR hd
 go_enter Tryz.func17,Tryz.ntmps17
 generalize hQQ:bodyPost Tryz.prog _ _=QQ
 have HQQ:=lH hQQ
 clear hQQ
 go_wp2_with fail
 generalize w.alloc (.cells #[.slice none 0 0] 36)=W1 at *
 refine(HN.out _).mono ?_
 rintro e w2 ⟨v2,rfl,he2,hb2⟩
 have HE2:=lH he2
 obtain⟨a2,c2,hv2⟩:=xag he2
 have HO2:=lH (O1.out.below hb2)
 have HB2:=lH (B1.out.trans (hb2.mono B1.out.size))
 clear he2 hb2 O1 B1 HN
 subst hv2
 by_cases h1:z=0
 ·subst h1
  have HBK:=lH (xlZ _ l d w2 HE2.out HM.out.1 (by have:=HM.out.2;omega))
  have HRR:Hid (R=xeO l d):=lH (by rw[HR.out,if_neg (by simp)])
  rw[← HRR.out] at HBK
  have f2:=HO2.out.frz
  go_wp2_with fail
  refine HBK.out.mono ?_
  rintro e w3 ⟨s3,rfl,hc3,hb3⟩
  obtain⟨a3,n3,p3,rfl⟩:=hc3.form
  have ho3:=HO2.out.below hb3
  have HC3:=lH (And.intro hc3 (And.intro ho3 (HB2.out.trans (hb3.mono HB2.out.size))))
  have k1:=ho3.cell
  have k2:=ho3.frz
  clear hb3 hc3 ho3 HBK f2
  go_wp2_with fail
  rw[← HQQ.out]
  refine bodyPost_ret (xaR rfl _ _ w.heap.size _ _ _ rfl rfl (HC3.out.2.1.set _).cell Tryz.underlying36 rfl xaQ) rfl ⟨_,rfl,HC3.out.1.set HC3.out.2.1 _,HC3.out.2.2.setCell (p:=⟨w.heap.size,0,none⟩) (Nat.le_refl _) _⟩
 ·have e1:(z == 0)=false:=by simpa using h1
  have HRR:Hid (R=([],z)):=lH (by rw[HR.out,if_pos h1])
  have k1:=HO2.out.cell
  have k2:=HO2.out.frz
  go_wp2_with fail
  rw[← HQQ.out]
  refine bodyPost_ret (xaR rfl _ _ w.heap.size _ _ _ rfl rfl (HO2.out.set _).cell Tryz.underlying36 rfl xaQ) rfl ⟨_,by rw[HRR.out];rfl,by rw[HRR.out];exact⟨xdp _,xfl⟩,HB2.out.setCell (p:=⟨w.heap.size,0,none⟩) (Nat.le_refl _) _⟩
def xxo:Js→Bool
 | .obj _=>true
 | _=>false
def ckP (b k:Int) (s:ByteArray):Int :=
 if b<512∨16257<b then 15 else if 5<k then 14 else if (xt5 (bI s)).2.2≠0 then (xt5 (bI s)).2.2 else if xxo (xt5 (bI s)).1=true then 0 else 4
def hdP (L:List It) (k:Int):Hd:=⟨0,0,0,0,0,0,0,0,(L.length:Nat),((xad L).1.length:Nat),(conN (xad L).1:Nat),true,1,1,k,zlo L,zhi L,-1800000000,-850511287,1800000000,850511287,zlo L,0,0⟩
def ptP (L:List It) (b:Int) (s:ByteArray):Pt:=⟨xmm (xam (xad L).1 b).root,s,(xam (xad L).1 b).text,xbU (xad L).2⟩
def xci (L:List It) (b k:Int) (s:ByteArray):ByteArray × Int :=
 if ckP b k s≠0 then (noB,ckP b k s) else if (xam (xad L).1 b).err≠0 then (noB,(xam (xad L).1 b).err) else xbe (hdP L k) (ptP L b s)
theorem xrK (t:It) (h:t.1<6004799503160661):0≤xig (t.1:Int)∧xig (t.1:Int)≤26:=by
 obtain⟨k,hk,_,_,e⟩:=xgB (t.1:Int) (by omega) (by omega)
 rw[e];omega
theorem xvl {a b:Int} (h0:0≤a) (hab:a≤b) (hb:b<6004799503160661):xig a≤xig b:=by
 obtain⟨i,hi,a1,a2,ea⟩:=xgB a h0 (by omega)
 obtain⟨j,hj,b1,b2,eb⟩:=xgB b (by omega) hb
 rw[ea,eb]
 rcases Nat.lt_or_ge j i with h|h
 ·have:=xgQ (j+1) i (by omega)
  rw[xjU] at this
  omega
 ·omega
theorem xr5 {L:List It} (hg:GoodC L):0≤zlo L∧zlo L≤zhi L∧zhi L≤26:=by
 cases L with
 | nil=>exact⟨Int.le_refl _,Int.le_refl _,by decide⟩
 | cons t m =>
  obtain⟨u,hu⟩:∃ u,(t :: m).getLast?=some u:=⟨_,List.getLast?_eq_some_getLast (by simp)⟩
  have hm:u ∈ t :: m:=List.mem_of_getLast? hu
  have h1:=xrK t (hg.low t (by simp))
  have h2:=xrK u (hg.low u hm)
  have e:zhi (t :: m)=xig (u.1:Int):=by unfold zhi;rw[hu]
  have e2:zlo (t :: m)=xig (t.1:Int):=rfl
  rw[e,e2]
  refine⟨h1.1,xvl (by omega) ?_ (by have:=hg.low u hm;omega),h2.2⟩
  rcases List.mem_cons.1 hm with rfl|hm'
  ·omega
  ·have:=(List.pairwise_cons.1 hg.rise).1 u hm';omega
theorem xco {L:List It} (hg:GoodC L):xay (xad L).1:=fun e he=>((xgU hg).ok e he).may
theorem xji {L:List It} (hg:GoodC L):xaj (xad L).1=[]:=by
 unfold xaj
 refine List.filter_eq_nil_iff.2 (fun e he=>?_)
 have:=((xgU hg).ok e he).run
 simp only[decide_eq_true_eq]
 omega
theorem xql {L:List It} (hg:GoodC L):xaC (xad L).1=0:=(xeh hg).2.1
theorem xc0 {L:List It} (hg:GoodC L):(xad L).1.length≤L.length:=(xeh hg).2.2.2.2.1
theorem xv2 (l:List En) (b:Int) (n:Nat):∀ (j f m:Nat),j<f→xpf b (xbp (2 ^ j*m) l)=true→∃ k,goS l b f m=some k:=by
 intro j
 induction j with
 | zero =>
  intro f m h hf
  obtain⟨f,rfl⟩:∃ g,f=g+1:=⟨f - 1,by omega⟩
  rw[Nat.pow_zero,Nat.one_mul] at hf
  exact⟨m,by rw[goS,if_pos hf]⟩
 | succ j ih =>
  intro f m h hf
  obtain⟨f,rfl⟩:∃ g,f=g+1:=⟨f - 1,by omega⟩
  rw[goS]
  split
  ·exact⟨_,rfl⟩
  ·refine ih f (2*m) (by omega) ?_
   rw[show 2 ^ j*(2*m)=2 ^ (j+1)*m by rw[Nat.pow_succ,Nat.mul_assoc]]
   exact hf
theorem xmZ (l:List En):xez l≤10+40*l.length:=by
 unfold xez
 have:=(xb5 l).2
 split <;> omega
theorem xlX {l:List En} {b:Int} (hm:xay l) (hr:xaC l=0) (hlv:xaj l=[]) (hl:l.length≤150) (h0:512≤b) (h1:b≤16257):(xam l b).err=0:=by
 unfold xam
 rw[if_neg (by omega),if_neg (by simp[hr]),if_neg (by simp[hlv])]
 split
 ·rfl
 rename_i h4
 have hne:l≠[]:=by
  rintro rfl
  have:=xmZ []
  simp at this
  omega
 have hf:xpf b (xbp (2 ^ 8*1) l)=true:=by
  rw[xiP _ (by omega) hl,decide_eq_true_eq]
  have:=xmZ (xaw 0 (xbp (2 ^ 8*1) l))
  rw[xbI,xhD _ (by omega) l hne (by omega)] at this
  rw[xhD _ (by omega) l hne (by omega)]
  simp at this
  omega
 obtain⟨k,hk⟩:=xv2 l b 0 8 13 1 (by omega) hf
 rw[hk]
structure Spl (l:List En) (b:Int):Prop where
 may:xay (xam l b).root
 row:xaC (xam l b).root=0
 len:(xam l b).root.length≤l.length
 fit:((xaq (xam l b).root).length:Int)≤b
 text:(xam l b).text.size≤10*l.length+40*l.length
theorem xms {l:List En} {b:Int} (hm:xay l) (hl:l.length≤150) (he:(xam l b).err=0):Spl l b:=by
 obtain⟨b0,b1,hr,hlv,h⟩:=xd1 he
 rcases h with ⟨h,e⟩|⟨h,n,hn,hf,e⟩
 ·rw[xez,if_pos hr] at h
  exact⟨by rw[e];exact hm,by rw[e];exact hr,by rw[e];exact Nat.le_refl _,by rw[e];exact h,by rw[e];exact Nat.zero_le _⟩
 ·have hrow:=xgd n hn hm hr (by omega)
  have hlen:(xaw 0 (xbp n l)).length≤l.length:=by rw[xbI];exact xfg n hn l
  rw[xiP n hn hl,decide_eq_true_eq,xez,if_pos hrow] at hf
  have hb:=xfj (xbp n l)
  have hc:=xfg n hn l
  rw[xb4 n hn l] at hb
  refine⟨?_,by rw[e];exact hrow,by rw[e];exact hlen,by rw[e];exact hf,by rw[e];show (str (xaA (xbp n l))).size≤_;rw[xa9];omega⟩
  rw[e]
  refine xiw (by rw[xb4 n hn l];exact hm) (fun p hp=>(xg0 n hn l p hp).1) (fun p hp=>?_) (by omega)
  have h1:=(xb5 p).2
  have h2:p.length≤l.length:=by
   have:=xb4 n hn l
   obtain⟨x,y,hxy⟩:=List.append_of_mem hp
   rw[hxy,List.flatten_append,List.flatten_cons] at this
   have:=congrArg List.length this
   rw[List.length_append,List.length_append] at this
   omega
  omega
theorem xrR {l:List En} (hr:xaC l=0) (hs:(xaq l).length≤65536):xjC l=0∧xmm l=str (xaq l):=by
 have h:xjC l=0:=by unfold xjC;rw[if_pos hr,if_neg (by omega)]
 exact⟨h,by unfold xmm;rw[if_pos h]⟩
theorem xvL {L:List It} (hg:GoodC L):(xbU (xad L).2).size≤134217728:=by
 have:=xv5 hg L.length (Nat.le_refl _)
 rw[List.take_length] at this
 rw[xdJ];exact this
theorem xoV {L:List It} {b:Int} {s:ByteArray} (hg:GoodC L) (hl:L.length≤150) (hs:s.size≤1000000) (he:(xam (xad L).1 b).err=0) (hb:b≤16257):Few (ptP L b s) 200000000:=by
 have hlen:=xc0 hg
 have S:=xms (xco hg) (by omega) he
 have h1:=S.fit
 have h2:=S.text
 have h3:=xvL hg
 obtain⟨e1,e2⟩:=xrR S.row (by omega)
 refine⟨?_,by show s.size≤_;omega,by show (xam (xad L).1 b).text.size≤_;omega,by show (xbU (xad L).2).size≤_;omega⟩
 show (xmm (xam (xad L).1 b).root).size≤_
 rw[e2,xa9]
 omega
theorem xr3 (l:List En):conN l≤l.length:=by
 unfold conN
 refine Nat.le_trans (xsJ _) ?_
 unfold xfR
 rw[List.length_map]
 exact List.length_filter_le _ _
theorem xku {L:List It} {k:Int} (hg:GoodC L) (hk:U8 k):xeJ (hdP L k):=by
 have h1:=xr5 hg
 have h2:=hg.few
 have h3:=xc0 hg
 have h4:=xr3 (xad L).1
 unfold U8 at hk
 unfold xeJ hdP U64 U8
 simp only
 omega
theorem xkH {L:List It} {b k:Int} {s:ByteArray} (hg:GoodC L) (hl:L.length≤150) (hk:U8 k) (hs:s.size≤1000000) (hc:ckP b k s=0) :
  (xam (xad L).1 b).err=0∧(xbe (hdP L k) (ptP L b s)).2=0∧xci L b k s=xbe (hdP L k) (ptP L b s):=by
 have hb:512≤b∧b≤16257∧k≤5:=by
  unfold ckP at hc
  split at hc
  ·cases hc
  split at hc
  ·cases hc
  omega
 have hlen:=xc0 hg
 have he:=xlX (xco hg) (xql hg) (xji hg) (by omega) hb.1 hb.2.1
 have hf:=xoV hg hl hs he hb.2.1
 have hz:=xr5 hg
 have hck:ckH (xcB (hdP L k) (xcD (ptP L b s)).sec)=0:=by
  rw[xff hf]
  obtain⟨f0,f1,f2,f3⟩:=hf
  generalize ptP L b s=p at *
  unfold U8 at hk
  unfold ckH xcJ xd9 xcx xmk xfS xcB hdP
  simp only[Bool.and_eq_true,decide_eq_true_eq]
  rw[if_pos (by omega),if_pos (by omega),if_pos (by omega),if_pos (by omega)]
 have hgl:(xbe (hdP L k) (ptP L b s)).2=0:=by
  unfold xbe
  rw[if_neg (by rw[xff hf];simp),if_neg (by unfold xfp;rw[if_pos hck];simp)]
 refine⟨he,hgl,?_⟩
 unfold xci
 rw[if_neg (by simpa using hc),if_neg (by simpa using he)]
end Go.Proofs.YtjinnigjfopbcaaGreatDoor
namespace Go.Proofs.YtjinnigjfopbcaaGreatDoor
set_option linter.unusedVariables false
set_option linter.unusedSimpArgs false
open Go.RowKit
set_option maxRecDepth 100000
theorem xm3:∀ (l acc:List It),(xlk acc l).length≤acc.length+l.length
 | [],acc=>by rw[xlk];simp
 | t :: l,acc=>by
  rw[xlk]
  have h1:=xm3 l (xcG acc t.1 t.2)
  have h2:(xcG acc t.1 t.2).length≤acc.length+1:=by
   unfold xcG
   split
   ·rw[xjq];have:=xdR t.1 acc;omega
   ·omega
  rw[List.length_cons]
  omega
theorem xqO {l:List It} {m M:Int} (h:xho l m M=false):xan l≤M∧(l.length:Int)≤m:=by
 unfold xho at h
 rw[Bool.or_eq_false_iff,decide_eq_false_iff_not,decide_eq_false_iff_not] at h
 omega
end Go.Proofs.YtjinnigjfopbcaaGreatDoor
namespace Go.Proofs.YtjinnigjfopbcaaGreatDoor
set_option linter.unusedVariables false
set_option linter.unusedSimpArgs false
open Go.RowKit
set_option maxRecDepth 20000
theorem xic:∀ (l acc:List It),xan (xlk acc l)≤xan acc+xan l
 | [],acc=>by rw[xlk];simp[xan]
 | t :: l,acc=>by
  rw[xlk]
  have h1:=xic l (xcG acc t.1 t.2)
  have h2:xan (xcG acc t.1 t.2)≤xan acc+t.2.size:=by
   unfold xcG
   split
   ·rw[xn5];have:=xlU t.1 acc;omega
   ·omega
  rw[xan]
  omega
theorem xrj (x:ByteArray):x++ByteArray.empty=x:=ByteArray.append_empty
theorem xmI {L:List It} {b k:Int} {s:ByteArray} (hg:GoodC L) (hl:L.length≤150) (hk:U8 k) (hs:s.size≤1000000) (hc:ckP b k s=0) :
  ∃ y,xci L b k s=(y,0)∧xaV y=⟨xeB (hdP L k) (ptP L b s),ptP L b s,0⟩∧y.size=127+xrX (ptP L b s)∧Few (ptP L b s) 200000000:=by
 obtain⟨h1,h2,h3⟩:=xkH hg hl hk hs hc
 have hb:b≤16257:=(xd1 h1).2.1
 have hf:=xoV (s:=s) hg hl hs h1 hb
 have h4:=xdL (xku hg hk) hf h2
 have h5:=xqG (xku hg hk) hf h2 ByteArray.empty
 rw[xrj] at h5
 rw[h3]
 generalize hG:xbe (hdP L k) (ptP L b s)=G at *
 obtain⟨y,z⟩:=G
 simp only at h2 h4 h5
 subst h2
 exact⟨y,rfl,h5,h4,hf⟩
structure WholeP (L:List It) (b k:Int) (s y:ByteArray) (X:Hd) (p:Pt):Prop where
 cut:xaV y=⟨X,p,0⟩
 sz:y.size≤1000000
 dec:∃ n,xbR p.p0.data.toList=((xam (xad L).1 b).root,n,0)
 p0:(p.p0.size:Int)≤b
 p0m:p.p0.size≤16257
 may:xay (xam (xad L).1 b).root
 few:(xam (xad L).1 b).root.length≤150
 join:xcr (xam (xad L).1 b).root p.p2=((xad L).1,0)
 p2:p.p2.size≤1000000
 back:xeO (xad L).1 p.p3=(L,0)
 p3:p.p3.size≤200000000
 p1:p.p1=s
 hm:xeJ X
 laid:xsS X (y.size:Nat)=0
 ad:X.ad=(L.length:Nat)
 en:X.en=((xad L).1.length:Nat)
 fin:X.df+X.dl=(y.size:Nat)
 df:0≤X.df∧0≤X.dl
 rf:X.rf=127
 rl:X.rl=(p.p0.size:Nat)
 inn:X.inn=1
 out:X.out=1
 cl:X.cl=true
 sz2:y.size≤900000
 d3:p.p3=xbU (xad L).2
theorem xrp {L:List It} {b k:Int} {s:ByteArray} (hg:GoodC L) (hl:L.length≤150) (hk:U8 k) (hs:s.size≤1000) (ht:totF (xad L).2≤100000) (hc:ckP b k s=0):∃ y X p,xci L b k s=(y,0)∧WholeP L b k s y X p:=by
 obtain⟨y,h1,h2,h3,h4⟩:=xmI hg hl hk (show s.size≤1000000 by omega) hc
 obtain⟨h5,h6,h7⟩:=xkH hg hl hk (show s.size≤1000000 by omega) hc
 have hb:=(xd1 h5).2.1
 have hrl:=xc0 hg
 have S:=xms (xco hg) (by omega) h5
 have s1:=S.fit
 have s2:=S.text
 have s3:=S.len
 obtain⟨e1,e2⟩:=xrR S.row (by omega)
 have e0:(ptP L b s).p0=str (xaq (xam (xad L).1 b).root):=e2
 have z0:(ptP L b s).p0.size=(xaq (xam (xad L).1 b).root).length:=by rw[e0,xa9]
 have z2:(ptP L b s).p2.size≤50*L.length:=by show (xam (xad L).1 b).text.size≤_;omega
 have z3:(ptP L b s).p3.size=totF (xad L).2:=xdJ _
 have z1:(ptP L b s).p1.size=s.size:=rfl
 have hd:=xgR (h:=hdP L k) h4
 have hm:=xku hg hk
 have hy:(xbe (hdP L k) (ptP L b s)).1=y:=by rw[← h7,h1]
 refine⟨y,xeB (hdP L k) (ptP L b s),ptP L b s,h1,⟨h2,?_,?_,by omega,by omega,S.may,by omega,?_,by omega,(xeh hg).1,by omega,rfl,xkj hm h4,?_,rfl,rfl,?_,?_,hd.1,hd.2.1,rfl,rfl,rfl,?_,rfl⟩⟩
 ·rw[h3];unfold xrX;omega
 ·rw[e0,xh9]
  exact⟨_,xii _ S.may S.row (by rw[← xcL];omega)⟩
 ·exact xkS (xco hg) (by omega) h5
 ·have:=xn2 hm h4 h6
  rw[hy] at this;exact this
 ·have:=xpT hm h4 h6
  rw[hy] at this;exact this
 ·omega
 ·rw[h3];unfold xrX;omega
end Go.Proofs.YtjinnigjfopbcaaGreatDoor
namespace Go.Proofs.YtjinnigjfopbcaaGreatDoor
set_option linter.unusedVariables false
set_option linter.unusedSimpArgs false
open Go.RowKit
set_option maxRecDepth 20000
def xdg (b k:Int) (s:ByteArray):Array Value:=#[.int .i64 b,.int .u8 k,.string s]
end Go.Proofs.YtjinnigjfopbcaaGreatDoor
namespace Go.Proofs.YtjinnigjfopbcaaGreatDoor
set_option linter.unusedVariables false
set_option linter.unusedSimpArgs false
open Go.RowKit Go.Maps
set_option maxRecDepth 100000
theorem xi7:(Tryz.prog.info? 53).map (·.size)=some 3:=by kernel_rfl
theorem xjy {W:World} {g:Nat} {b k:Int} {s:ByteArray} (h:Box W g (xdg b k s)):(loadVar 53 ⟨g,0,none⟩).run Tryz.prog W=.ok (.agg (xdg b k s)) W:=by
 obtain⟨T,hT⟩:=h
 exact run_loadVar_row W g T _ _ (0,0) _ hT Tryz.underlying53 rfl xi7
structure StW (w W:World) (g5:Nat) (b k:Int) (t:ByteArray) (s:Value) (L:List It):Prop where
 pl:Box W w.heap.size (xdg b k t)
 o5:One W g5 s
 c5:ChS W s L
 bel:Below w.heap.size w W
theorem StW.below {w W X:World} {g5:Nat} {b k:Int} {t:ByteArray} {s:Value} {L:List It} (h:StW w W g5 b k t s L) (hb:Below W.heap.size W X):StW w X g5 b k t s L :=
 ⟨h.pl.below hb,h.o5.below hb,h.c5.below hb,h.bel.trans (hb.mono h.bel.size)⟩
theorem StW.facts {w W:World} {g5:Nat} {b k:Int} {t:ByteArray} {s:Value} {L:List It} (h:StW w W g5 b k t s L) :
  W.cell? ⟨w.heap.size,0,none⟩=some (.int .i64 b)∧W.cell? ⟨w.heap.size,1,none⟩=some (.int .u8 k)∧W.cell? ⟨w.heap.size,2,none⟩=some (.string t)∧W.cell? ⟨g5,0,none⟩=some s∧(loadVar 53 ⟨w.heap.size,0,none⟩).run Tryz.prog W=.ok (.agg (xdg b k t)) W :=
 ⟨by rw[h.pl.cell];rfl,by rw[h.pl.cell];rfl,by rw[h.pl.cell];rfl,h.o5.cell,xjy h.pl⟩
theorem xnv (l:List ByteArray) (s:ByteArray):totF (xbK l s)≤totF l+s.size:=by
 unfold xbK;split
 ·rw[xcl,xko];omega
 ·omega
theorem xgg (L:List It):totF (xad L).2≤xan L:=by
 refine xq6 (M:=fun L=>totF (xad L).2≤xan L) (Nat.le_refl _) (fun L t ih=>?_) L
 rw[xga,xa2]
 have h1:=xnv (xad L).2 t.2
 have h2:xan [t]=t.2.size:=by simp[xan]
 show totF (xbK (xad L).2 t.2)≤_
 omega
end Go.Proofs.YtjinnigjfopbcaaGreatDoor
namespace Go.Proofs.YtjinnigjfopbcaaGreatDoor
set_option linter.unusedVariables false
set_option linter.unusedSimpArgs false
open Go.RowKit
set_option maxRecDepth 100000
theorem xlw (s v:Value) (L:List It) (k:Int) (w:World) (h:ChS w s L) (hv:xak w v (xad L).1) :
  Calls Tryz.prog 71 #[.agg #[s],.int .u8 k,v] w fun e w'=>e=.returned (.agg (cH (hdP L k)))∧Below w.heap.size w w':=by
 have hg:=h.good
 have hfew:=hg.few
 have hrl:=xc0 hg
 have hcl:=xr3 (xad L).1
 have hw1:IntKind.u64.wrap (L.length:Int)=(L.length:Int):=by rw[IntKind.wrap_u64] <;> omega
 have hw2:IntKind.u64.wrap ((xad L).1.length:Int)=((xad L).1.length:Int):=by rw[IntKind.wrap_u64] <;> omega
 have hw3:IntKind.u64.wrap (conN (xad L).1:Int)=(conN (xad L).1:Int):=by rw[IntKind.wrap_u64] <;> omega
 obtain⟨a5,n5,c5,rfl⟩:=h.form
 have HV:=lH hv
 obtain⟨ar,cr,rfl,hcr,hmr,_⟩:=hv
 obtain⟨W,hW⟩:∃ W,(w.alloc (.cells #[.slice a5 n5 c5] 36)).alloc (.cells (cH xac) 124)=W:=⟨_,rfl⟩
 have h0:One W w.heap.size (.slice a5 n5 c5):=by
  rw[← hW]
  exact(xaP w _ _).alloc _
 have h2:HAt W (w.heap.size+1) 124 xac:=by
  have:=HAt.made (w.alloc (.cells #[.slice a5 n5 c5] 36)) xac 124
  simp only[World.size_alloc] at this
  rw[← hW]
  exact this
 have hbw:Below w.heap.size w W:=by rw[← hW];exact((Below.refl _ w).alloc (Nat.le_refl _) _).alloc (by simp) _
 have HM:=lH (xco hg)
 have HZ:=lH (xm1 (.slice a5 n5 c5) L W (h.below hbw))
 have HL:=lH (fun X (hX:Below W.heap.size W X)=>xri (.slice a5 n5 c5) L X ((h.below hbw).below hX))
 have HC:=lH (fun X (hX:Below W.heap.size W X)=>xoU _ (xad L).1 X ((HV.out.below hbw).below hX) HM.out (by omega))
 have H0:=lH h0
 have H2:=lH h2
 have HB:=lH hbw
 have q0:=h0.cell
 have hz:cH xac=#[.int .u64 0,.int .u64 0,.int .u64 0,.int .u64 0,.int .u64 0,.int .u64 0,.int .u64 0,.int .u64 0,.int .u64 0,.int .u64 0,.int .u64 0,.bool false,.int .u8 0,.int .u8 0,.int .u8 0,.int .i64 0,.int .i64 0,.int .i64 0,.int .i64 0,.int .i64 0,.int .i64 0,.int .i64 0,.int .i64 0,.int .i64 0]:=rfl
 rw[hz] at hW
 have hR:cH (hdP L k)=#[.int .u64 0,.int .u64 0,.int .u64 0,.int .u64 0,.int .u64 0,.int .u64 0,.int .u64 0,.int .u64 0,.int .u64 L.length,.int .u64 (xad L).1.length,.int .u64 (conN (xad L).1:Nat),.bool true,.int .u8 1,.int .u8 1,.int .u8 k,.int .i64 (zlo L),.int .i64 (zhi L),.int .i64 (-1800000000),.int .i64 (-850511287),.int .i64 1800000000,.int .i64 850511287,.int .i64 (zlo L),.int .i64 0,.int .i64 0]:=rfl
 generalize hX:hdP L k=X at *
 have HR:=lH hR
 clear h hg h0 h2 hbw hz hcl hX hR
 generalize (xad L).1=R at *
 generalize zlo L=zl at *
 generalize zhi L=zh at *
 generalize conN R=cn at *
 go_enter Tryz.func71,Tryz.ntmps71
 go_wp2_with fail
 try rw[hW]
 clear hW
 refine HZ.out.mono ?_
 rintro e w1 ⟨rfl,hb1⟩
 have HB1:=lH hb1
 have q1:=(H0.out.below hb1).cell
 clear hb1 q0 HZ
 go_wp2_with fail
 refine(HL.out _ HB1.out).mono ?_
 rintro e w2 ⟨rfl,hb2⟩
 have HB2:=lH (HB1.out.trans (hb2.mono HB1.out.size))
 clear hb2 q1 HB1 HL
 go_wp2_with fail
 refine(HC.out _ HB2.out).mono ?_
 rintro e w3 ⟨rfl,hb3⟩
 have HB3:=lH (HB2.out.trans (hb3.mono HB2.out.size))
 have HH:=lH (H2.out.later HB3.out)
 have HBX:=lH (HB.out.trans (HB3.out.mono HB.out.size))
 clear hb3 HB2 HC
 go_wp2_with (first|(refine wpList_store_row rfl 124 _ _ rfl (w.heap.size+1) _ rfl rfl 124 (cH xac) HH.out xar rfl (by have:=xdY X;rw[HR.out] at this;exact this) ?_)|fail)
 have hp:=xh1 w3 (w.heap.size+1) _ xac X HH.out
 rw[← HR.out]
 refine bodyPost_ret (results_cell_row rfl _ _ (w.heap.size+1) 124 (cH X) (0,0) _ rfl hp.1 Tryz.underlying124 rfl xar) rfl ⟨rfl,hp.2.2.1 _ _ (by omega) HBX.out⟩
theorem xiU (gb ge:Nat) (x y:Int) (u:FrameMode) (w:World) (hb:One w gb (.int .i64 x)) (he:One w ge (.int .i64 y)) :
  CallsD Tryz.prog 66 #[.pointer (some ⟨gb,0,none⟩),.pointer (some ⟨ge,0,none⟩)] u w fun e u' w'=>u'=u∧(e=.returned (.tuple #[])∧w'=w.setCell ⟨ge,0,none⟩ (.int .i64 x)):=by
 have h1:=hb.cell
 have h2:=he.cell
 have h3:=he.frz
 go_enter_d Tryz.func66,Tryz.ntmps66
 go_wp2
 go_end0
 exact⟨rfl,rfl⟩
theorem Box.set_other {w:World} {g g':Nat} {x:Array Value} (h:Box w g x) (hn:g≠g') (x':Value):Box (w.setCell ⟨g',0,none⟩ x') g x:=by
 obtain⟨T,h⟩:=h
 exact⟨T,xdB h hn _ _⟩
theorem xak.set18 {w:World} {v:Value} {l:List En} (h:xak w v l) {g:Nat} {x:Value} (ho:One w g x) (x':Value):xak (w.setCell ⟨g,0,none⟩ x') v l:=by
 obtain⟨T,hh⟩:=ho
 obtain⟨a,cap,rfl,h1,h2,hc⟩:=h
 refine⟨a,cap,rfl,h1,h2,fun k t ht=>?_⟩
 obtain⟨g',off,ha,hg,c0,c1,c2,c3⟩:=hc k t ht
 have hn:g'≠g:=by
  rintro rfl
  simp[World.cell?,hh] at c3
 have hb:(w.setCell ⟨g,0,none⟩ x').heap[g']?=w.heap[g']?:=Below.heap_setCell _ _ _ _ (by simpa using hn)
 exact⟨g',off,ha,by simpa using hg,(World.cell?_of_block (a:=⟨g',_,none⟩) hb).trans c0,(World.cell?_of_block (a:=⟨g',_,none⟩) hb).trans c1,(World.cell?_of_block (a:=⟨g',_,none⟩) hb).trans c2,(World.cell?_of_block (a:=⟨g',_,none⟩) hb).trans c3⟩
theorem xnQ:(Tryz.prog.info? 59).map (·.size)=some 3:=by kernel_rfl
structure StP (w W:World) (g0 g1 g2 g3:Nat) (s:Value) (L:List It) (b k:Int) (t:ByteArray) (z:Int):Prop where
 ord:w.heap.size≤g2∧w.heap.size≤g3∧g0≠g3∧g1≠g3∧g2≠g3
 ch:One W g0 s
 pl:Box W g1 (xdg b k t)
 e:One W g2 (.int .i64 0)
 bad:One W g3 (.int .i64 z)
 its:ChS W s L
 bel:Below w.heap.size w W
theorem StP.below {w W X:World} {g0 g1 g2 g3:Nat} {s:Value} {L:List It} {b k:Int} {t:ByteArray} {z:Int} (h:StP w W g0 g1 g2 g3 s L b k t z) (hb:Below W.heap.size W X):StP w X g0 g1 g2 g3 s L b k t z :=
 ⟨h.ord,h.ch.below hb,h.pl.below hb,h.e.below hb,h.bad.below hb,h.its.below hb,h.bel.trans (hb.mono h.bel.size)⟩
theorem StP.tell {w W:World} {g0 g1 g2 g3:Nat} {s:Value} {L:List It} {b k:Int} {t:ByteArray} {z:Int} (h:StP w W g0 g1 g2 g3 s L b k t z) (y:Int):StP w (W.setCell ⟨g3,0,none⟩ (.int .i64 y)) g0 g1 g2 g3 s L b k t y :=
 ⟨h.ord,h.ch.set_other h.ord.2.2.1 _,h.pl.set_other h.ord.2.2.2.1 _,h.e.set_other h.ord.2.2.2.2 _,h.bad.set _,h.its.set h.bad _,h.bel.setCell (p:=⟨g3,0,none⟩) h.ord.2.1 _⟩
theorem StP.facts {w W:World} {g0 g1 g2 g3:Nat} {s:Value} {L:List It} {b k:Int} {t:ByteArray} {z:Int} (h:StP w W g0 g1 g2 g3 s L b k t z) :
  W.cell? ⟨g0,0,none⟩=some s∧W.cell? ⟨g1,0,none⟩=some (.int .i64 b)∧W.cell? ⟨g1,1,none⟩=some (.int .u8 k)∧W.cell? ⟨g1,2,none⟩=some (.string t) ∧
  W.cell? ⟨g3,0,none⟩=some (.int .i64 z)∧W.frozen? ⟨g3,0,none⟩=false∧(loadVar 59 ⟨g1,0,none⟩).run Tryz.prog W=.ok (.agg (xdg b k t)) W:=by
 refine⟨h.ch.cell,by rw[h.pl.cell];rfl,by rw[h.pl.cell];rfl,by rw[h.pl.cell];rfl,h.bad.cell,h.bad.frz,?_⟩
 obtain⟨T,hT⟩:=h.pl
 exact run_loadVar_row W g1 T _ _ (0,0) _ hT Tryz.underlying59 rfl xnQ
theorem StP.shut {w W:World} {g0 g1 g2 g3:Nat} {s:Value} {L:List It} {b k:Int} {t:ByteArray} {z:Int} (h:StP w W g0 g1 g2 g3 s L b k t z) :
  (W.setCell ⟨g2,0,none⟩ (.int .i64 z)).cell? ⟨g2,0,none⟩=some (.int .i64 z)∧Below w.heap.size w (W.setCell ⟨g2,0,none⟩ (.int .i64 z)) :=
 ⟨(h.e.set _).cell,h.bel.setCell (p:=⟨g2,0,none⟩) h.ord.1 _⟩
theorem xia (s:Value) (L:List It) (b k:Int) (t:ByteArray) (w:World) (hq:QTab w) (h:ChS w s L) (hl:L.length≤150) (hk:U8 k) (hb:-9223372036854775808≤b∧b≤9223372036854775807) (ht:t.size≤1000000) (HC0:∀ W,QTab W→Calls Tryz.prog 33 #[.agg (xdg b k t)] W fun e w'=>e=.returned (.int .i64 (ckP b k t))∧Below W.heap.size W w') :
  Calls Tryz.prog 28 #[.agg #[s],.agg (xdg b k t)] w fun e w'=>e=.returned (.tuple #[.string (xci L b k t).1,.int .i64 (xci L b k t).2])∧Below w.heap.size w w':=by
 have hmf:∀ (fn:Fn) (first cap:Array Value) (w:World),(Instr.makeFunc fn first cap).run Tryz.prog w=.ok (.func fn first cap) w:=fun _ _ _ _=>rfl
 have hg:=h.good
 have hrl:=xc0 hg
 have HQ:=lH (fun W (hb:Below w.heap.size w W)=>hq.below hb)
 have HCK:=lH (fun W hq=>HC0 W hq)
 clear HC0
 obtain⟨a5,n5,c5,rfl⟩:=h.form
 obtain⟨W,hW⟩:∃ W,(((w.alloc (.cells #[.slice a5 n5 c5] 36)).alloc (.cells (xdg b k t) 59)).alloc (.cells #[.int .i64 0] 28)).alloc (.cells #[.int .i64 0] 28)=W:=⟨_,rfl⟩
 have hS:StP w W w.heap.size (w.heap.size+1) (w.heap.size+1+1) (w.heap.size+1+1+1) (.slice a5 n5 c5) L b k t 0:=by
  have b1:=(Below.refl w.heap.size w).alloc (Nat.le_refl _) (.cells #[.slice a5 n5 c5] 36)
  have o1:=xaP w (.slice a5 n5 c5) 36
  generalize hW1:w.alloc (.cells #[.slice a5 n5 c5] 36)=W1 at *
  have z1:W1.heap.size=w.heap.size+1:=by rw[← hW1,World.size_alloc]
  have b2:=(Below.refl W1.heap.size W1).alloc (Nat.le_refl _) (.cells (xdg b k t) 59)
  have o2:=xjn W1 (xdg b k t) 59
  generalize hW2:W1.alloc (.cells (xdg b k t) 59)=W2 at *
  have z2:W2.heap.size=w.heap.size+1+1:=by rw[← hW2,World.size_alloc,z1]
  have b3:=(Below.refl W2.heap.size W2).alloc (Nat.le_refl _) (.cells #[.int .i64 0] 28)
  have o3:=xaP W2 (.int .i64 0) 28
  generalize hW3:W2.alloc (.cells #[.int .i64 0] 28)=W3 at *
  have z3:W3.heap.size=w.heap.size+1+1+1:=by rw[← hW3,World.size_alloc,z2]
  have b4:=(Below.refl W3.heap.size W3).alloc (Nat.le_refl _) (.cells #[.int .i64 0] 28)
  have o4:=xaP W3 (.int .i64 0) 28
  rw[hW] at b4 o4
  rw[z1] at o2
  rw[z2] at o3
  rw[z3] at o4
  have c1:=b1.trans ((b2.mono b1.size).trans (((b3.mono b2.size).trans (b4.mono (Nat.le_trans b2.size b3.size))).mono b1.size))
  exact⟨⟨by omega,by omega,by omega,by omega,by omega⟩,((o1.below b2).below b3).below b4,(o2.below b3).below b4,o3.below b4,o4,h.below c1,c1⟩
 unfold xdg at hW ⊢
 generalize hP:xci L b k t=P
 have HP:=lH hP
 have HS:=lH hS
 have H0:=lH h
 clear hq hS h hP
 go_enter_defers Tryz.func28,Tryz.ntmps28
 go_upto_region 3 with fail
 generalize w.heap.size+1+1+1=g3 at *
 generalize w.heap.size+1+1=g2 at *
 generalize w.heap.size+1=g1 at *
 obtain⟨q0,p0,p1,p2,b0,bf,lp⟩:=HS.out.facts
 unfold xdg at lp HCK
 obtain⟨cz,hcz⟩:∃ z,ckP b k t=z:=⟨_,rfl⟩
 rw[hcz] at HCK
 have HCZ:=lH hcz
 clear hcz hW
 go_wp2_with fail
 refine(HCK.out _ (HQ.out _ HS.out.bel)).mono ?_
 rintro e w1 ⟨rfl,hb1⟩
 have HS1:=lH (HS.out.below hb1)
 obtain⟨_,_,_,_,b1,bf1,_⟩:=HS1.out.facts
 clear HS hb1 q0 p0 p1 p2 b0 bf lp HCK
 by_cases h1:cz=0
 ·subst h1
  have HS2:=lH (HS1.out.tell 0)
  go_upto_region 5 with fail
  generalize w1.setCell { block:=g3,off:=0 } (Value.int IntKind.i64 0)=w2 at *
  obtain⟨q0,_⟩:=HS2.out.facts
  clear HS1 b1 bf1
  go_wp2_with fail
  refine(xlF _ L _ HS2.out.its).mono ?_
  rintro e w3 ⟨v3,rfl,hr3,hb3⟩
  have HS3:=lH (HS2.out.below hb3)
  obtain⟨_,p0,_⟩:=HS3.out.facts
  have HR3:=lH hr3
  obtain⟨ar,cr,rfl,hcr,hmr,_⟩:=hr3
  have HSP:=lH (xjD _ (xad L).1 b _ HR3.out (xco hg) (by omega) hb)
  clear HS2 hb3 q0
  unfold xmR at HSP
  go_wp2_with fail
  refine HSP.out.mono ?_
  rintro e w4 ⟨v4,rfl,hr4,hb4⟩
  have HS4:=lH (HS3.out.below hb4)
  have HR4:=lH (And.intro (HR3.out.below hb4) hr4)
  obtain⟨_,_,_,_,b4,bf4,_⟩:=HS4.out.facts
  clear HS3 hb4 p0 HSP hr4 HR3
  obtain⟨ez,hez⟩:∃ z,(xam (xad L).1 b).err=z:=⟨_,rfl⟩
  have HEZ:=lH hez
  rw[hez]
  clear hez
  by_cases h2:ez=0
  ·subst h2
   have he:=HEZ.out
   have hbb:b≤16257:=(xd1 he).2.1
   have SP:=xms (xco hg) (by omega) he
   have HFW:=lH (xoV (s:=t) hg hl ht he hbb)
   have HS5:=lH (HS4.out.tell 0)
   have HR5:=lH (And.intro (HR4.out.1.set18 HS4.out.bad (.int .i64 0)) (HR4.out.2.set18 HS4.out.bad (.int .i64 0)))
   have HEN:=lH (fun X hX=>xit v4 (xam (xad L).1 b).root X hX SP.may (by have:=SP.len;omega))
   have HHD:=lH (fun X (h1:ChS X (.slice a5 n5 c5) L) h2=>xlw (.slice a5 n5 c5) (.slice ar (xad L).1.length cr) L k X h1 h2)
   have HGL:=lH (fun X=>xln (hdP L k) (ptP L b t) X (xku hg hk) HFW.out)
   have HPE0:Hid (P=xbe (hdP L k) (ptP L b t)):=lH (by rw[← HP.out];unfold xci;rw[HCZ.out,if_neg (by simp),he,if_neg (by simp)])
   generalize xbe (hdP L k) (ptP L b t)=G at *
   obtain⟨y,z⟩:=G
   have HPE:Hid (P=(y,z)):=HPE0
   unfold xiF ptP at HGL
   dsimp only at HGL
   generalize cH (hdP L k)=Hc at *
   clear SP he HPE0
   go_upto_region 8 with fail
   generalize w4.setCell { block:=g3,off:=0 } (Value.int IntKind.i64 0)=w5 at *
   clear HS4 HR4 b4 bf4
   go_wp2_with fail
   refine(HEN.out _ HR5.out.2).mono ?_
   rintro e w6 ⟨rfl,hb6⟩
   have HS6:=lH (HS5.out.below hb6)
   have HR6:=lH (HR5.out.1.below hb6)
   obtain⟨q0,p0,p1,p2,b0,bf,_⟩:=HS6.out.facts
   clear HS5 HR5 hb6 HEN
   go_upto_region 9 with fail
   go_cut [4] from 40 to 54 (fun x wx=>x=.string y∧StP w wx w.heap.size g1 g2 g3 (.slice a5 n5 c5) L b k t z)
   case first =>
    refine wp_mono (Q:=xc1 _) ?_ xfy
    go_region_with (first|(go_at_call 71;refine(HHD.out _ (HS6.out.its.below (by go_grown)) (HR6.out.below (by go_grown))).mono ?_;rintro e wa ⟨rfl,hba⟩;have hbA:Below w6.heap.size w6 wa:=Below.trans (by go_grown) (hba.mono (by simp));obtain⟨_,_,r1,r2,rb,rf,_⟩:=(HS6.out.below hbA).facts)|(go_at_call 70;refine(HGL.out _).mono ?_;rintro e wb ⟨rfl,hbb⟩;have hbB:Below w6.heap.size w6 wb:=hbA.trans (hbb.mono hbA.size);obtain⟨_,_,_,_,sb,sf,_⟩:=(HS6.out.below hbB).facts))
    all_goals
     dsimp only[xc1]
     go_wp2_with fail
     go_meet
     case rel=>exact⟨rfl,(HS6.out.below hbB).tell z⟩
   case rest =>
    obtain⟨rfl,hS9⟩:=hcut
    generalize wc=w9 at *
    have HS9:=lH hS9
    clear hS9
    go_wp2_with fail
    refine leaves_cons (f:=66) (args:=#[.pointer (some ⟨g3,0,none⟩),.pointer (some ⟨g2,0,none⟩)]) (by simp) (by simp[go_sem]) ?_
    refine(xiU g3 g2 z 0 .returning _ HS9.out.bad HS9.out.e).mono ?_
    rintro e u' w'' ⟨rfl,rfl,rfl⟩
    obtain⟨k1,k2⟩:=HS9.out.shut
    refine⟨.tuple #[.string y,.int .i64 z],?_,by rw[HPE.out],k2⟩
    clear k2
    generalize w9.setCell { block:=g2,off:=0 } (Value.int IntKind.i64 z)=W9 at *
    simp[results,Tryz.results28,go_sem,k1]
  ·have e2:(ez == 0)=false:=by simp[h2]
   have HS5:=lH (HS4.out.tell ez)
   have HPE:Hid (P=(noB,ez)):=lH (by rw[← HP.out];unfold xci;rw[HCZ.out,if_neg (by simp),HEZ.out,if_pos h2])
   go_wp2_with fail
   refine leaves_cons (f:=66) (args:=#[.pointer (some ⟨g3,0,none⟩),.pointer (some ⟨g2,0,none⟩)]) (by simp) (by simp[go_sem]) ?_
   refine(xiU g3 g2 ez 0 .returning _ HS5.out.bad HS5.out.e).mono ?_
   rintro e u' w'' ⟨rfl,rfl,rfl⟩
   obtain⟨k1,k2⟩:=HS5.out.shut
   refine⟨.tuple #[.string noB,.int .i64 ez],?_,by rw[HPE.out],k2⟩
   clear k2
   generalize (w4.setCell { block:=g3,off:=0 } (Value.int IntKind.i64 ez)).setCell { block:=g2,off:=0 } (Value.int IntKind.i64 ez)=W9 at *
   simp[results,Tryz.results28,go_sem,k1,noB]
 ·have e1:(cz == 0)=false:=by simp[h1]
  have HS2:=lH (HS1.out.tell cz)
  have HPE:Hid (P=(noB,cz)):=lH (by rw[← HP.out];unfold xci;rw[HCZ.out,if_pos h1])
  go_wp2_with fail
  refine leaves_cons (f:=66) (args:=#[.pointer (some ⟨g3,0,none⟩),.pointer (some ⟨g2,0,none⟩)]) (by simp) (by simp[go_sem]) ?_
  refine(xiU g3 g2 cz 0 .returning _ HS2.out.bad HS2.out.e).mono ?_
  rintro e u' w'' ⟨rfl,rfl,rfl⟩
  obtain⟨k1,k2⟩:=HS2.out.shut
  refine⟨.tuple #[.string noB,.int .i64 cz],?_,by rw[HPE.out],k2⟩
  clear k2
  generalize (w1.setCell { block:=g3,off:=0 } (Value.int IntKind.i64 cz)).setCell { block:=g2,off:=0 } (Value.int IntKind.i64 cz)=W9 at *
  simp[results,Tryz.results28,go_sem,k1,noB]
def xT:ByteArray:={ data:=#[120] }
def xL:List It:=[(0,xT)]
def obT:ByteArray:={ data:=#[123,125] }
def arT:ByteArray:={ data:=#[80,77,84,105,108,101,115,3,127,0,0,0,0,0,0,0,5,0,0,0,0,0,0,0,132,0,0,0,0,0,0,0,2,0,0,0,0,0,0,0,134,0,0,0,0,0,0,0,0,0,0,0,0,0,0,0,134,0,0,0,0,0,0,0,1,0,0,0,0,0,0,0,1,0,0,0,0,0,0,0,1,0,0,0,0,0,0,0,1,0,0,0,0,0,0,0,1,1,1,0,0,0,0,46,182,148,73,58,78,205,0,210,73,107,183,197,177,50,0,0,0,0,0,0,0,0,0,1,0,1,1,1,123,125,120] }
theorem xwM:ofI xL=(xL,0):=by rfl
theorem xu9:ckP 512 0 obT=0:=by kernel_rfl
theorem xtK:xci xL 512 0 obT=(arT,0):=by kernel_rfl
theorem xwt (k:Nat) (n:Nat) (hk:k≤2) (hn:k+xaM ((bI obT).drop k)=n) (w:World):Calls Tryz.prog 153 #[.string { data:=#[123,125] },.int .i64 (k:Nat)] w fun e w'=>e=.returned (.int .i64 (n:Nat))∧Below w.heap.size w w':=by
 rw[← hn]
 exact xo9 obT k w (by have:obT.size=2:=rfl;omega) (by decide)
theorem xqE (c:Value) (w:World):Calls Tryz.prog 282 #[.string { data:=#[123,125] },.int .i64 0,.int .i64 1,.string { data:=#[125] },c] w fun e w'=>e=.returned (.tuple #[.int .i64 2,.int .i64 0])∧Below w.heap.size w w':=by
 have HP:=lH (fun W=>xwt 1 1 (by omega) (by decide) W)
 have HH:=lH (fun W=>xsU { data:=#[125] } { data:=#[125] } W)
 rw[decide_eq_true (List.prefix_refl _)] at HH
 go_enter Tryz.func282,Tryz.ntmps282
 go_wp2_with fail
 refine(HP.out _).mono ?_
 rintro e w1 ⟨rfl,hb1⟩
 have HB1:=lH hb1
 clear hb1 HP
 go_wp2_with fail
 refine(HH.out _).mono ?_
 rintro e w2 ⟨rfl,rfl⟩
 go_wp2_with fail
 exact bodyPost_ret (results_tmp2 rfl _ _ _) rfl ⟨rfl,HB1.out⟩
theorem xvy (w:World):Calls Tryz.prog 232 #[.string { data:=#[123,125] },.int .i64 0,.int .i64 1] w fun e w'=>∃ v,e=.returned (.tuple #[.iface 157 v,.int .i64 2,.int .i64 0])∧Below w.heap.size w w':=by
 have HP:=lH (fun c W=>xqE c W)
 go_enter Tryz.func232,Tryz.ntmps232
 go_wp2_with fail
 refine(HP.out _ _).mono ?_
 rintro e w1 ⟨rfl,hb1⟩
 obtain⟨W,hW⟩:∃ W,(((w.alloc (.cells #[.string { data:=#[123,125] }] 9)).alloc (.cells #[.int .i64 1] 3)).alloc (.cells #[] 404)).alloc (.cells #[.slice (some ⟨w.heap.size+1+1,0,none⟩) 0 0] 157)=W:=⟨_,rfl⟩
 have q:W.cell? ⟨w.heap.size+1+1+1,0,none⟩=some (.slice (some ⟨w.heap.size+1+1,0,none⟩) 0 0):=by rw[← hW];simp[go_sem]
 have hb0:Below w.heap.size w W:=by rw[← hW];go_grown
 rw[hW] at hb1
 have q1:=xal hb1 q
 have HB1:=lH (hb0.trans (hb1.mono hb0.size))
 clear hb0 hb1 q hW HP
 go_wp2_with fail
 exact bodyPost_ret (results_tmp3 rfl _ _ _) rfl ⟨_,rfl,HB1.out⟩
theorem xrs (w:World):Calls Tryz.prog 152 #[.string { data:=#[123,125] },.int .i64 0,.int .i64 1] w fun e w'=>∃ v,e=.returned (.tuple #[.iface 157 v,.int .i64 2,.int .i64 0])∧Below w.heap.size w w':=by
 have HP:=lH (fun W=>xvy W)
 go_enter Tryz.func152,Tryz.ntmps152
 go_wp2_with fail
 refine(HP.out _).mono ?_
 rintro e w1 ⟨v,rfl,hb1⟩
 have HB1:=lH hb1
 clear hb1 HP
 go_wp2_with fail
 exact bodyPost_ret (results_tmp3 rfl _ _ _) rfl ⟨_,rfl,HB1.out⟩
theorem xta (w:World):Calls Tryz.prog 74 #[.string { data:=#[123,125] }] w fun e w'=>∃ v,e=.returned (.tuple #[.iface 157 v,.int .i64 2,.int .i64 0])∧Below w.heap.size w w':=by
 have HP:=lH (fun W=>xwt 0 0 (by omega) (by decide) W)
 have HP2:=lH (fun W=>xwt 2 2 (by omega) (by decide) W)
 have HT:=lH (fun W=>xrs W)
 go_enter Tryz.func74,Tryz.ntmps74
 go_wp2_with fail
 refine(HP.out _).mono ?_
 rintro e w1 ⟨rfl,hb1⟩
 have HB1:=lH hb1
 clear hb1 HP
 go_wp2_with fail
 refine(HT.out _).mono ?_
 rintro e w2 ⟨v,rfl,hb2⟩
 have HB2:=lH (HB1.out.trans (hb2.mono HB1.out.size))
 clear hb2 HB1 HT
 go_wp2_with fail
 refine(HP2.out _).mono ?_
 rintro e w3 ⟨rfl,hb3⟩
 have HB3:=lH (HB2.out.trans (hb3.mono HB2.out.size))
 clear hb3 HB2 HP2
 go_wp2_with fail
 exact bodyPost_ret (results_tmp3 rfl _ _ _) rfl ⟨_,rfl,HB3.out⟩
theorem xqD (w:World):Calls Tryz.prog 33 #[.agg (xdg 512 0 obT)] w fun e w'=>e=.returned (.int .i64 0)∧Below w.heap.size w w':=by
 have HT:=lH (fun W=>xta W)
 have hv:=fun v W=>xlE 20 157 v _ Tryz.underlying157 rfl W
 unfold xdg obT
 have HB0:Hid (Below w.heap.size w (w.alloc (.cells #[.int .i64 512,.int .u8 0,.string { data:=#[123,125] }] 59))):=lH ((Below.refl _ _).alloc (Nat.le_refl _) _)
 go_enter Tryz.func33,Tryz.ntmps33
 go_wp2_with fail
 refine(HT.out _).mono ?_
 rintro e w1 ⟨v,rfl,hb1⟩
 have HB:=lH (HB0.out.trans (hb1.mono HB0.out.size))
 clear hb1 HB0 HT
 go_wp2_with fail
 go_ret
 exact⟨rfl,HB.out⟩
theorem xes (s:Value) (L:List It) (w:World) (hq:QTab w) (h:ChS w s L) (hl:L.length≤150) :
  Calls Tryz.prog 28 #[.agg #[s],.agg #[.int .i64 512,.int .u8 0,.string { data:=#[123,125] }]] w fun e w'=>e=.returned (.tuple #[.string (xci L 512 0 obT).1,.int .i64 (xci L 512 0 obT).2])∧Below w.heap.size w w' :=
 xia s L 512 0 obT w hq h hl (by unfold U8;omega) (by omega) (by decide) (fun W _=>by rw[xu9];exact xqD W)
theorem xvE (v:Value) (w:World) (hv:ItsAt w v xL):Calls Tryz.prog 40 #[v] w fun e w'=>∃ s',e=.returned (.tuple #[.agg #[s'],.int .i64 0])∧ChS w' s' xL∧Below w.heap.size w w':=by
 refine(xoP v _ w hv (by decide) (fun t ht=>?_) (fun t ht=>?_)).mono ?_
 ·simp[xL] at ht;subst ht;decide
 ·simp[xL] at ht;unfold maxLen;subst ht;decide
 rintro e w' ⟨s',rfl,h,hb⟩
 rw[xwM] at h
 exact⟨s',by rw[xwM];rfl,h,hb⟩
theorem xoQ (s:Value) (w:World) (hq:QTab w) (h:ChS w s xL):Calls Tryz.prog 28 #[.agg #[s],.agg #[.int .i64 512,.int .u8 0,.string { data:=#[123,125] }]] w fun e w'=>e=.returned (.tuple #[.string arT,.int .i64 0])∧Below w.heap.size w w':=by
 have:=xes s xL w hq h (by decide)
 rw[xtK] at this
 exact this
end Go.Proofs.YtjinnigjfopbcaaGreatDoor
namespace Go.Proofs.YtjinnigjfopbcaaGreatDoor
set_option linter.unusedVariables false
set_option linter.unusedSimpArgs false
open Go.RowKit Go.Maps
set_option maxRecDepth 100000
theorem t_c:nvC arT=(xL,0):=by kernel_rfl
theorem xvp:arT.size=135:=by kernel_rfl
theorem xpN (w:World) (T:TypeId):ItsAt (w.alloc (.cells #[.int .u64 0,.string xT] T)) (.slice (some ⟨w.heap.size,0,none⟩) 1 1) xL:=by
 refine⟨_,1,rfl,by simp[xL],by unfold maxLen;omega,fun k u hu=>⟨w.heap.size,0,rfl,by simp,?_⟩⟩
 match k,hu with
 | 0,hu=>simp[xL] at hu;subst hu;exact⟨by simp[go_sem],by simp[go_sem]⟩
 | k+1,hu=>simp[xL] at hu
theorem xma (w:World) (hq:QTab w):Calls Tryz.prog 32 #[] w fun e w'=>e=.returned (.bool true)∧Below w.heap.size w w':=by
 have HQ:=lH hq
 have HI:=lH (xpN w 67)
 have HB0:=lH (xae w (.cells #[.int .u64 0,.string xT] 67))
 have hsz:=xvp
 have HRD:=lH (fun W=>xmE arT W (by rw[hsz];omega))
 rw[t_c] at HRD
 have HPR:=lH (fun s W=>xoQ s W)
 unfold xT at HI HB0
 generalize arT=A at *
 clear hq
 go_enter Tryz.func32,Tryz.ntmps32
 go_wp2_with fail
 refine(xvE _ _ HI.out).mono ?_
 rintro e w1 ⟨s1,rfl,hc1,hb1⟩
 obtain⟨a1,n1,p1,rfl⟩:=hc1.form
 have HB1:=lH (HB0.out.trans (hb1.mono HB0.out.size))
 have HC1:=lH hc1
 clear hb1 hc1 HI HB0
 have h1:=xae w1 (.cells #[.slice a1 n1 p1] 36)
 have HC2:=lH (And.intro (xaP w1 (.slice a1 n1 p1) 36) (And.intro (HC1.out.below h1) (HB1.out.trans (h1.mono HB1.out.size))))
 clear h1 HB1 HC1
 go_wp2_with fail
 generalize w1.alloc (.cells #[.slice a1 n1 p1] 36)=W1 at *
 generalize w1.heap.size=gc at *
 refine(HPR.out _ _ (HQ.out.below HC2.out.2.2) HC2.out.2.1).mono ?_
 rintro e w2 ⟨rfl,hb2⟩
 have HC3:=lH (And.intro (HC2.out.1.below hb2) (And.intro (HC2.out.2.1.below hb2) (HC2.out.2.2.trans (hb2.mono HC2.out.2.2.size))))
 clear hb2 HC2
 go_wp2_with fail
 refine(HRD.out _).mono ?_
 rintro e w3 ⟨s3,rfl,hc3,hb3⟩
 obtain⟨a3,n3,p3,rfl⟩:=hc3.form
 have h3:=xae w3 (.cells #[.slice a3 n3 p3] 36)
 have h4:=hb3.trans (h3.mono hb3.size)
 have HC4:=lH (And.intro (HC3.out.1.below h4) (And.intro (HC3.out.2.1.below h4) (HC3.out.2.2.trans (h4.mono HC3.out.2.2.size))))
 have HD4:=lH (And.intro (xaP w3 (.slice a3 n3 p3) 36) (hc3.below h3))
 clear hb3 hc3 h3 h4 HC3
 go_upto_region 4 with fail
 generalize w3.alloc (.cells #[.slice a3 n3 p3] 36)=W3 at *
 generalize w3.heap.size=gd at *
 have q1:=HC4.out.1.cell
 have q2:=HD4.out.1.cell
 have HSM:=lH (xpy (.slice a1 n1 p1) (.slice a3 n3 p3) xL xL W3 HC4.out.2.1 HD4.out.2)
 rw[decide_eq_true (rfl:xL=xL)] at HSM
 go_wp2_with fail
 refine HSM.out.mono ?_
 rintro e w8 ⟨rfl,hb8⟩
 have HB8:=lH (HC4.out.2.2.trans (hb8.mono HC4.out.2.2.size))
 clear hb8 HSM q1 q2 HC4 HD4
 go_wp2_with fail
 go_ret
 exact⟨rfl,HB8.out⟩
end Go.Proofs.YtjinnigjfopbcaaGreatDoor
