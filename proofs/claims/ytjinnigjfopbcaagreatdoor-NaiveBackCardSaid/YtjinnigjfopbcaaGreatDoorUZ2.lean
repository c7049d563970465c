/- Qi Ke Kg Zg Zh Zj Kh Zl. -/
import Derived.Test.YtjinnigjfopbcaaGreatDoorUs
import Derived.Test.YtjinnigjfopbcaaGreatDoorUZ1
import Derived.Test.YtjinnigjfopbcaaGreatDoorUa9
set_option maxHeartbeats 16000000
namespace Go.Proofs.YtjinnigjfopbcaaGreatDoor
set_option linter.unusedVariables false
set_option linter.unusedSimpArgs false
open Go.RowKit
set_option maxRecDepth 100000
def yL:List It:=[(3,xT),(4,xT)]
def yE:En:=⟨3,0,1,2⟩
def yA:ByteArray:=(xbs yL 512 0 obT).1
theorem xy2:xbs yL 512 0 obT=(yA,0):=by
 have h:(xbs yL 512 0 obT).2=0:=by kernel_rfl
 exact Prod.ext rfl h
theorem xBy:ofI yL=(yL,0):=by rfl
theorem xrb (s:Value) (w:World) (hq:QTab w) (h:ChS w s yL):Calls Tryz.prog 28 #[.agg #[s],.agg #[.int .i64 512,.int .u8 0,.string { data:=#[123,125] }]] w fun e w'=>e=.returned (.tuple #[.string yA,.int .i64 0])∧Below w.heap.size w w':=by
 have:=xgM s yL 512 0 obT w hq h (by decide) (by unfold U8;omega) (by omega) (by decide)
 rw[xy2] at this
 exact this
theorem xAK (v:Value) (w:World) (hv:ItsAt w v yL):Calls Tryz.prog 40 #[v] w fun e w'=>∃ s',e=.returned (.tuple #[.agg #[s'],.int .i64 0])∧ChS w' s' yL∧Below w.heap.size w w':=by
 refine(xsq v _ w hv (by decide) (fun t ht=>?_) (fun t ht=>?_)).mono ?_
 ·simp[yL] at ht;rcases ht with h|h <;> subst h <;> decide
 ·simp[yL] at ht;unfold maxLen;rcases ht with h|h <;> subst h <;> decide
 rintro e w' ⟨s',rfl,h,hb⟩
 rw[xBy] at h
 exact⟨s',by rw[xBy];rfl,h,hb⟩
end Go.Proofs.YtjinnigjfopbcaaGreatDoor
namespace Go.Proofs.YtjinnigjfopbcaaGreatDoor
set_option linter.unusedVariables false
set_option linter.unusedSimpArgs false
open Go.RowKit Go.Maps
set_option maxRecDepth 100000
theorem n_c:nvC yA=(yL,0):=by kernel_rfl
theorem xB4:nvT yA 4=(xT,true,0):=by kernel_rfl
theorem xB1:nvT yA 5=(noB,false,0):=by kernel_rfl
theorem xBO:nvR { data:=#[] }=([],noB,3):=by kernel_rfl
theorem n_r:nvR yA=([yE],xT,0):=by kernel_rfl
theorem xin:yA.size=135:=by kernel_rfl
theorem xwz (w:World) (T:TypeId):ItsAt (w.alloc (.cells #[.int .u64 3,.string xT,.int .u64 4,.string xT] T)) (.slice (some ⟨w.heap.size,0,none⟩) 2 2) yL:=by
 refine⟨_,2,rfl,by simp[yL],by unfold maxLen;omega,fun k u hu=>⟨w.heap.size,0,rfl,by simp,?_⟩⟩
 match k,hu with
 | 0,hu=>simp[yL] at hu;subst hu;exact⟨by simp[go_sem],by simp[go_sem]⟩
 | 1,hu=>simp[yL] at hu;subst hu;exact⟨by simp[go_sem],by simp[go_sem]⟩
 | k+2,hu=>simp[yL] at hu
theorem xbI (w:World) (hq:QTab w):Calls Tryz.prog 14 #[] w fun e w'=>e=.returned (.bool true)∧Below w.heap.size w w':=by
 have HQ:=lH hq
 have HI:=lH (xwz w 67)
 have HB0:=lH (xae w (.cells #[.int .u64 3,.string xT,.int .u64 4,.string xT] 67))
 have HRD:=lH (fun W=>xi3 yA W (by rw[xin];omega))
 have HT4:=lH (fun W=>xg4 yA 4 W (by rw[xin];omega))
 have HT5:=lH (fun W=>xg4 yA 5 W (by rw[xin];omega))
 have HR0:=lH (fun W=>xeB { data:=#[] } W (by decide))
 have HR1:=lH (fun W=>xeB yA W (by rw[xin];omega))
 unfold xpX at HR0 HR1
 rw[n_c] at HRD
 rw[xB4] at HT4
 rw[xB1] at HT5
 rw[xBO] at HR0
 rw[n_r] at HR1
 have HPR:=lH (fun s W=>xrb s W)
 unfold xT at HI HB0 HT4 HR1
 unfold noB at HT5 HR0
 generalize yA=A at *
 clear hq
 go_enter Tryz.func14,Tryz.ntmps14
 go_wp2_with fail
 refine(xAK _ _ HI.out).mono ?_
 rintro e w1 ⟨s1,rfl,hc1,hb1⟩
 obtain⟨a1,n1,p1,rfl⟩:=hc1.form
 have HB1:=lH (HB0.out.trans (hb1.mono HB0.out.size))
 have HC1:=lH hc1
 clear hb1 hc1 HI HB0
 have h1:=xae w1 (.cells #[.slice a1 n1 p1] 36)
 have HC2:=lH (And.intro (xaX w1 (.slice a1 n1 p1) 36) (And.intro (HC1.out.below h1) (HB1.out.trans (h1.mono HB1.out.size))))
 clear h1 HB1 HC1
 go_wp2_with fail
 generalize w1.alloc (.cells #[.slice a1 n1 p1] 36)=W1 at *
 generalize w1.heap.size=gc at *
 refine(HPR.out _ _ (HQ.out.below HC2.out.2.2) HC2.out.2.1).mono ?_
 rintro e w2 ⟨rfl,hb2⟩
 have HC3:=lH (And.intro (HC2.out.1.below hb2) (And.intro (HC2.out.2.1.below hb2) (HC2.out.2.2.trans (hb2.mono HC2.out.2.2.size))))
 clear hb2 HC2
 go_wp2_with fail
 refine(HRD.out _).mono ?_
 rintro e w3 ⟨s3,rfl,hc3,hb3⟩
 obtain⟨a3,n3,p3,rfl⟩:=hc3.form
 have h3:=xae w3 (.cells #[.slice a3 n3 p3] 36)
 have h4:=hb3.trans (h3.mono hb3.size)
 have HC4:=lH (And.intro (HC3.out.1.below h4) (And.intro (HC3.out.2.1.below h4) (HC3.out.2.2.trans (h4.mono HC3.out.2.2.size))))
 have HD4:=lH (And.intro (xaX w3 (.slice a3 n3 p3) 36) (hc3.below h3))
 clear hb3 hc3 h3 h4 HC3
 go_wp2_with fail
 generalize w3.alloc (.cells #[.slice a3 n3 p3] 36)=W3 at *
 generalize w3.heap.size=gd at *
 refine(HT4.out _).mono ?_
 rintro e w4 ⟨rfl,hb4⟩
 have HB4:=lH hb4
 clear hb4
 go_wp2_with fail
 refine(HT5.out _).mono ?_
 rintro e w5 ⟨rfl,hb5⟩
 have HB5:=lH (HB4.out.trans (hb5.mono HB4.out.size))
 clear hb5 HB4
 go_wp2_with fail
 refine(HR0.out _).mono ?_
 rintro e w6 ⟨v6,rfl,he6,hb6⟩
 have HB6:=lH (HB5.out.trans (hb6.mono HB5.out.size))
 obtain⟨a6,c6,rfl⟩:=xag he6
 clear hb6 he6 HB5
 go_wp2_with fail
 refine(HR1.out _).mono ?_
 rintro e w7 ⟨v7,rfl,he7,hb7⟩
 have HB7:=lH (HB6.out.trans (hb7.mono HB6.out.size))
 obtain⟨a7,c7,rfl⟩:=xag he7
 clear hb7 he7 HB6
 have HC7:=lH (And.intro (HC4.out.1.below HB7.out) (And.intro (HC4.out.2.1.below HB7.out) (HC4.out.2.2.trans (HB7.out.mono HC4.out.2.2.size))))
 have HD7:=lH (And.intro (HD4.out.1.below HB7.out) (HD4.out.2.below HB7.out))
 have q1:=HC7.out.1.cell
 have q2:=HD7.out.1.cell
 have HSM:=lH (fun X (hX:Below w7.heap.size w7 X)=>xmS (.slice a1 n1 p1) (.slice a3 n3 p3) yL yL X (HC7.out.2.1.below hX) (HD7.out.2.below hX))
 rw[decide_eq_true (rfl:yL=yL)] at HSM
 clear HC4 HD4 HB7
 simp only[List.length_cons,List.length_nil,Nat.zero_add]
 have hst:=xeb (rfl:(({ data:=#[120] }:ByteArray))={ data:=#[120] })
 go_wp2_with fail
 refine(HSM.out _ (Below.refl _ _)).mono ?_
 rintro e w8 ⟨rfl,hb8⟩
 have HB8:=lH (HC7.out.2.2.trans (hb8.mono HC7.out.2.2.size))
 clear hb8 HSM q1 q2 HC7 HD7
 go_wp2_with fail
 go_ret
 exact⟨rfl,HB8.out⟩
theorem xp1:∀ (q:Nat) (l:List It) (s:ByteArray),xa9 q l=some s→(q,s) ∈ l
 | q,[],s,h=>by cases h
 | q,t :: l,s,h=>by
  rw[xa9] at h
  split at h
  ·rename_i h1
   injection h with h
   rw[← h1,← h]
   exact List.mem_cons_self
  ·exact List.mem_cons_of_mem _ (xp1 q l s h)
theorem xrC (d:ByteArray) (q:Nat):∀ (l:List En),(∀ e ∈ l,xa2 e∧ckN e=0∧TellE e d)→xuC d (xjl l (q:Int))=(xsF (xa9 q (xd3 l d)),(xa9 q (xd3 l d)).isSome,0)
 | [],_=>rfl
 | e :: l,h=>by
  obtain⟨hm,hc,ht⟩:=h e (by simp)
  have hr:=xyI e d hm hc q
  have he:xd3 (e :: l) d=xe5 e d++xd3 l d:=by simp[xd3]
  rw[he,xlB]
  by_cases hh:xmD e (q:Int)=true
  ·have hf:xjl (e :: l) (q:Int)=some e:=by unfold xjl;simp[hh]
   rw[hf]
   have hs:(xa9 q (xe5 e d)).isSome=true:=(xbU q _).2 (hr.1 hh)
   obtain⟨s,hs2⟩:=Option.isSome_iff_exists.1 hs
   have hmem:=xp1 q _ s hs2
   obtain⟨k,_,hk⟩:=(xex e d _).1 hmem
   have hx:s=txN e d:=by injection hk
   rw[hs2]
   dsimp only
   unfold xuC
   dsimp only
   rw[if_neg (by have:=ht.inn;omega),hx]
   unfold txN xsF
   unfold xa2 at hm
   rw[Int.toNat_add (by omega) (by omega)]
   rfl
  ·have hf:xjl (e :: l) (q:Int)=xjl l (q:Int):=by unfold xjl;simp[hh]
   have hn:xa9 q (xe5 e d)=none:=by
    cases hg:xa9 q (xe5 e d) with
    | none=>rfl
    | some s=>exact absurd (hr.2 ((xbU q _).1 (by rw[hg];rfl))) hh
   rw[hf,hn]
   exact xrC d q l (fun x hx=>h x (List.mem_cons_of_mem _ hx))
theorem xy0 {s:ByteArray} (h:(nvC s).2=0) (q:Nat):nvT s (q:Int)=(xsF (xa9 q (nvC s).1),(xa9 q (nvC s).1).isSome,0):=by
 obtain⟨hm,hr⟩:=xmI s
 unfold nvT
 by_cases h1:(nvR s).2.2=0
 ·rw[if_neg (by simpa using h1)]
  unfold nvC at h ⊢
  rw[if_neg (by simpa using h1)] at h ⊢
  unfold xfu at h ⊢
  rw[if_neg (by simpa using hr)] at h ⊢
  obtain⟨⟨C,z⟩,hB⟩:∃ X,xcU (nvR s).1 (nvR s).2.1 [] 0=X:=⟨_,rfl⟩
  rw[hB] at h ⊢
  dsimp only at h ⊢
  subst h
  obtain⟨b1,b2,_⟩:=xgX _ _ _ _ _ hB
  rw[b2,List.nil_append]
  exact xrC _ q _ (fun e he=>⟨hm e he,xvV hm hr e he,b1 e he⟩)
 ·unfold nvC at h
  rw[if_pos h1] at h
  exact absurd h h1
end Go.Proofs.YtjinnigjfopbcaaGreatDoor
namespace Go.Proofs.YtjinnigjfopbcaaGreatDoor
set_option linter.unusedVariables false
set_option linter.unusedSimpArgs false
open Go.RowKit
set_option maxRecDepth 100000
theorem xrX:∀ (l acc:List It),(xn7 acc l).length≤acc.length+l.length
 | [],acc=>by rw[xn7];simp
 | t :: l,acc=>by
  rw[xn7]
  have h1:=xrX l (xdh acc t.1 t.2)
  have h2:(xdh acc t.1 t.2).length≤acc.length+1:=by
   unfold xdh
   split
   ·rw[xl1];have:=xeV t.1 acc;omega
   ·omega
  rw[List.length_cons]
  omega
theorem xvE {l:List It} {m M:Int} (h:xko l m M=false):xat l≤M∧(l.length:Int)≤m:=by
 unfold xko at h
 rw[Bool.or_eq_false_iff,decide_eq_false_iff_not,decide_eq_false_iff_not] at h
 omega
end Go.Proofs.YtjinnigjfopbcaaGreatDoor
namespace Go.Proofs.YtjinnigjfopbcaaGreatDoor
set_option linter.unusedVariables false
set_option linter.unusedSimpArgs false
open Go.RowKit
set_option maxRecDepth 20000
theorem xj0:∀ (l acc:List It),xat (xn7 acc l)≤xat acc+xat l
 | [],acc=>by rw[xn7];simp[xat]
 | t :: l,acc=>by
  rw[xn7]
  have h1:=xj0 l (xdh acc t.1 t.2)
  have h2:xat (xdh acc t.1 t.2)≤xat acc+t.2.size:=by
   unfold xdh
   split
   ·rw[xpY];have:=xoJ t.1 acc;omega
   ·omega
  rw[xat]
  omega
theorem xvy (x:ByteArray):x++ByteArray.empty=x:=ByteArray.append_empty
theorem xp6 {L:List It} {b k:Int} {s:ByteArray} (hg:GoodC L) (hl:L.length≤150) (hk:U8 k) (hs:s.size≤1000000) (hc:ckP b k s=0) :
  ∃ y,xbs L b k s=(y,0)∧xa0 y=⟨xfP (hdP L k) (ptP L b s),ptP L b s,0⟩∧y.size=127+xvQ (ptP L b s)∧Few (ptP L b s) 200000000:=by
 obtain⟨h1,h2,h3⟩:=xij hg hl hk hs hc
 have hb:b≤16257:=(xeJ h1).2.1
 have hf:=xpC (s:=s) hg hl hs h1 hb
 have h4:=xel (xmL hg hk) hf h2
 have h5:=xul (xmL hg hk) hf h2 ByteArray.empty
 rw[xvy] at h5
 rw[h3]
 generalize hG:xbA (hdP L k) (ptP L b s)=G at *
 obtain⟨y,z⟩:=G
 simp only at h2 h4 h5
 subst h2
 exact⟨y,rfl,h5,h4,hf⟩
theorem xpP {L:List It} {b k:Int} {s:ByteArray} (hg:GoodC L) (hl:L.length≤150) (hk:U8 k) (hs:s.size≤1000000) (h:(xbs L b k s).2≠0):ckP b k s≠0∧xbs L b k s=(noB,ckP b k s):=by
 by_cases hc:ckP b k s=0
 ·obtain⟨_,h2,h3⟩:=xij hg hl hk hs hc
  rw[h3] at h
  exact absurd h2 h
 ·exact⟨hc,by unfold xbs;rw[if_pos hc]⟩
theorem xn0 {L:List It} {b k:Int} {s:ByteArray} (h:(xbs L b k s).2=0):ckP b k s=0:=by
 refine Classical.byContradiction (fun hc=>?_)
 unfold xbs at h
 rw[if_pos hc] at h
 exact hc h
structure WholeP (L:List It) (b k:Int) (s y:ByteArray) (X:Hd) (p:Pt):Prop where
 cut:xa0 y=⟨X,p,0⟩
 sz:y.size≤1000000
 dec:∃ n,xco p.p0.data.toList=((xar (xaj L).1 b).root,n,0)
 p0:(p.p0.size:Int)≤b
 p0m:p.p0.size≤16257
 may:xaE (xar (xaj L).1 b).root
 few:(xar (xaj L).1 b).root.length≤150
 join:xc2 (xar (xaj L).1 b).root p.p2=((xaj L).1,0)
 p2:p.p2.size≤1000000
 back:xfu (xaj L).1 p.p3=(L,0)
 p3:p.p3.size≤200000000
 p1:p.p1=s
 hm:xfX X
 laid:xxu X (y.size:Nat)=0
 ad:X.ad=(L.length:Nat)
 en:X.en=((xaj L).1.length:Nat)
 fin:X.df+X.dl=(y.size:Nat)
 df:0≤X.df∧0≤X.dl
 rf:X.rf=127
 rl:X.rl=(p.p0.size:Nat)
 inn:X.inn=1
 out:X.out=1
 cl:X.cl=true
 sz2:y.size≤900000
theorem xt1 {L:List It} {b k:Int} {s:ByteArray} (hg:GoodC L) (hl:L.length≤150) (hk:U8 k) (hs:s.size≤1000) (ht:totF (xaj L).2≤100000) (hc:ckP b k s=0):∃ y X p,xbs L b k s=(y,0)∧WholeP L b k s y X p:=by
 obtain⟨y,h1,h2,h3,h4⟩:=xp6 hg hl hk (show s.size≤1000000 by omega) hc
 obtain⟨h5,h6,h7⟩:=xij hg hl hk (show s.size≤1000000 by omega) hc
 have hb:=(xeJ h5).2.1
 have hrl:=xdG hg
 have S:=xpN (xc8 hg) (by omega) h5
 have s1:=S.fit
 have s2:=S.text
 have s3:=S.len
 obtain⟨e1,e2⟩:=xvK S.row (by omega)
 have e0:(ptP L b s).p0=str (xaz (xar (xaj L).1 b).root):=e2
 have z0:(ptP L b s).p0.size=(xaz (xar (xaj L).1 b).root).length:=by rw[e0,xbu]
 have z2:(ptP L b s).p2.size≤50*L.length:=by show (xar (xaj L).1 b).text.size≤_;omega
 have z3:(ptP L b s).p3.size=totF (xaj L).2:=xha _
 have z1:(ptP L b s).p1.size=s.size:=rfl
 have hd:=xh7 (h:=hdP L k) h4
 have hm:=xmL hg hk
 have hy:(xbA (hdP L k) (ptP L b s)).1=y:=by rw[← h7,h1]
 refine⟨y,xfP (hdP L k) (ptP L b s),ptP L b s,h1,⟨h2,?_,?_,by omega,by omega,S.may,by omega,?_,by omega,(xfp hg).1,by omega,rfl,xnd hm h4,?_,rfl,rfl,?_,?_,hd.1,hd.2.1,rfl,rfl,rfl,?_⟩⟩
 ·rw[h3];unfold xvQ;omega
 ·rw[e0,xjj]
  exact⟨_,xjV _ S.may S.row (by rw[← xdi];omega)⟩
 ·exact xoU (xc8 hg) (by omega) h5
 ·have:=xr0 hm h4 h6
  rw[hy] at this;exact this
 ·have:=xs5 hm h4 h6
  rw[hy] at this;exact this
 ·omega
 ·rw[h3];unfold xvQ;omega
end Go.Proofs.YtjinnigjfopbcaaGreatDoor
namespace Go.Proofs.YtjinnigjfopbcaaGreatDoor
set_option linter.unusedVariables false
set_option linter.unusedSimpArgs false
open Go.RowKit Go.Maps
set_option maxRecDepth 100000
def PlanIn (x:Int × Int × ByteArray):Prop:=(-9223372036854775808≤x.1∧x.1≤9223372036854775807)∧U8 x.2.1∧x.2.2.size≤maxLen
theorem xlw:(Tryz.prog.info? 53).map (·.size)=some 3:=by kernel_rfl
theorem xln {W:World} {g:Nat} {b k:Int} {s:ByteArray} (h:Box W g (xcl b k s)):(loadVar 53 ⟨g,0,none⟩).run Tryz.prog W=.ok (.agg (xcl b k s)) W:=by
 obtain⟨T,hT⟩:=h
 exact run_loadVar_row W g T _ _ (0,0) _ hT Tryz.underlying53 rfl xlw
structure StW (w W:World) (g5:Nat) (b k:Int) (t:ByteArray) (s:Value) (L:List It):Prop where
 pl:Box W w.heap.size (xcl b k t)
 o5:One W g5 s
 c5:ChS W s L
 bel:Below w.heap.size w W
theorem StW.below {w W X:World} {g5:Nat} {b k:Int} {t:ByteArray} {s:Value} {L:List It} (h:StW w W g5 b k t s L) (hb:Below W.heap.size W X):StW w X g5 b k t s L :=
 ⟨h.pl.below hb,h.o5.below hb,h.c5.below hb,h.bel.trans (hb.mono h.bel.size)⟩
theorem StW.facts {w W:World} {g5:Nat} {b k:Int} {t:ByteArray} {s:Value} {L:List It} (h:StW w W g5 b k t s L) :
  W.cell? ⟨w.heap.size,0,none⟩=some (.int .i64 b)∧W.cell? ⟨w.heap.size,1,none⟩=some (.int .u8 k)∧W.cell? ⟨w.heap.size,2,none⟩=some (.string t)∧W.cell? ⟨g5,0,none⟩=some s∧(loadVar 53 ⟨w.heap.size,0,none⟩).run Tryz.prog W=.ok (.agg (xcl b k t)) W :=
 ⟨by rw[h.pl.cell];rfl,by rw[h.pl.cell];rfl,by rw[h.pl.cell];rfl,h.o5.cell,xln h.pl⟩
theorem xtR {t:ByteArray} {X:Hd} {p:Pt} (h:xa0 t=⟨X,p,0⟩):xcy (xbG t)=(X,0)∧¬ xdV X t.size∧p=⟨xj8 t X.rf X.rl,xj8 t X.mf X.ml,xj8 t X.lf X.ll,xj8 t X.df X.dl⟩:=by
 unfold xa0 at h
 split at h
 ·rename_i h1;simp only[Ct.mk.injEq] at h;exact absurd h.2.2 h1
 ·rename_i h1
  have h1:=Classical.not_not.1 h1
  split at h
  ·simp only[Ct.mk.injEq] at h;omega
  ·rename_i h2
   simp only[Ct.mk.injEq,and_true] at h
   obtain⟨rfl,rfl⟩:=h
   exact⟨Prod.ext rfl h1,h2,rfl⟩
theorem xpq (l:List ByteArray) (s:ByteArray):totF (xcm l s)≤totF l+s.size:=by
 unfold xcm;split
 ·rw[xd0,xmv];omega
 ·omega
theorem xos (L:List It):totF (xaj L).2≤xat L:=by
 refine xuN (M:=fun L=>totF (xaj L).2≤xat L) (Nat.le_refl _) (fun L t ih=>?_) L
 rw[xhZ,xbD]
 have h1:=xpq (xaj L).2 t.2
 have h2:xat [t]=t.2.size:=by simp[xat]
 show totF (xcm (xaj L).2 t.2)≤_
 omega
theorem xzj (y u:ByteArray):xbG (y++u)=xbG y++xbG u:=by
 unfold xbG
 have:(y++u).data=y.data++u.data:=by simp
 rw[this,Array.toList_append,List.map_append]
theorem xyV {y:ByteArray} {X:Hd} (u:ByteArray) (h:xcy (xbG y)=(X,0)):xcy (xbG (y++u))=(X,0):=by
 obtain⟨h1,h2,h3⟩:=xlC (xbG y) X (xg5 y) h
 rw[xzj,← List.take_append_drop 127 (xbG y),← h3,List.append_assoc]
 exact xpE X _ h1 h2
theorem xie (y u:ByteArray) (a b:Nat) (h:b≤y.size):(y++u).extract a b=y.extract a b:=by
 apply ByteArray.ext
 have e:(y++u).data=y.data++u.data:=by simp
 rw[ByteArray.data_extract,ByteArray.data_extract,e]
 rw[Array.extract_append]
 have hz:b - y.data.size=0:=by have:y.data.size=y.size:=rfl;omega
 simp[hz]
 omega
theorem xxm {y:ByteArray} {X:Hd} {p:Pt} (u:ByteArray) (h:xa0 y=⟨X,p,0⟩):xa0 (y++u)=⟨X,p,0⟩:=by
 obtain⟨h1,h2,h3⟩:=xtR h
 obtain⟨h4,_,_⟩:=xlC (xbG y) X (xg5 y) h1
 obtain⟨c0,c1,c2,c3,c4,c5,c6,c7,_⟩:=h4
 unfold U64 at c0 c1 c2 c3 c4 c5 c6 c7
 have hs:(y++u).size=y.size+u.size:=ByteArray.size_append
 have ho:¬ xdV X ((y++u).size:Nat):=by
  unfold xdV at h2 ⊢
  rw[hs]
  omega
 unfold xa0
 rw[xyV u h1]
 dsimp only
 rw[if_neg (by simp),if_neg ho,h3]
 unfold xdV at h2
 unfold xj8
 rw[xie y u _ _ (by omega),xie y u _ _ (by omega),xie y u _ _ (by omega),xie y u _ _ (by omega)]
theorem xyN {L:List It} {b k:Int} {t y:ByteArray} {X:Hd} {p:Pt} (h:WholeP L b k t y X p) (u:ByteArray):nvC (y++u)=(L,0):=by
 obtain⟨n,hd⟩:=h.dec
 have hc:=xxm u h.cut
 unfold nvC nvR nvD
 rw[hc]
 dsimp only
 rw[hd]
 dsimp only
 rw[h.join]
 dsimp only
 simp[h.back]
theorem naiveback_law (v:Value) (l:List It) (x:Int × Int × ByteArray) (u:ByteArray) (w:World) (hq:QTab w) (hv:ItsAt w v l) (hm:∀ e ∈ l,e.1<18446744073709551616∧e.2.size≤maxLen) (hx:PlanIn x) :
  Calls Tryz.prog 5 #[v,.agg #[.int .i64 x.1,.int .u8 x.2.1,.string x.2.2],.string u] w fun e w'=>e=.returned (.bool true)∧Below w.heap.size w w':=by
 obtain⟨b,k,t⟩:=x
 obtain⟨xb,xk,xt⟩:=hx
 simp only at xb xk xt ⊢
 have HQ:=lH (fun W (hb:Below w.heap.size w W)=>hq.below hb)
 have HAW:=lH (fun W (hb:Below w.heap.size w W)=>xbI W (hq.below hb))
 have HV:=lH (fun X (hX:Below w.heap.size w X)=>hv.below hX)
 have HMM:=lH hm
 have hba:=xae w (.cells (xcl b k t) 53)
 have hbx:=xii w (xcl b k t) 53
 have HOV:=lH (xu7 v l 80 4000 _ (hv.below hba) (fun e he=>(hm e he).2) (by omega) (by omega))
 have HOW:=lH (fun(hl:l.length≤10000)=>xw6 v l _ (hv.below hba) hl (fun e he=>(hm e he).1) (fun e he=>(hm e he).2))
 have HB0:=lH (And.intro hbx hba)
 obtain⟨ov,hov⟩:∃ ov,xko l 80 4000=ov:=⟨_,rfl⟩
 rw[hov] at HOV
 have c2:(w.alloc (.cells (xcl b k t) 53)).cell? ⟨w.heap.size,2,none⟩=some (.string t):=by rw[hbx.cell];rfl
 unfold xcl at c2 HOV HOW HB0
 clear hq hv hba hbx hm
 cases ov with
 | true =>
  clear hov
  go_enter Tryz.func5,Tryz.ntmps5
  go_wp2_with fail
  refine HOV.out.mono ?_
  rintro e w1 ⟨rfl,rfl⟩
  go_wp2_with fail
  refine(xbI _ (HQ.out _ HB0.out.2)).mono ?_
  rintro e wz ⟨rfl,hbz⟩
  have HBZ:=lH (Below.trans HB0.out.2 (hbz.mono (Below.size HB0.out.2)))
  clear hbz
  go_wp2_with fail
  go_ret
  exact⟨rfl,HBZ.out⟩
 | false =>
  obtain⟨bl,ll⟩:=xvE hov
  have hllx:l.length≤80:=by omega
  by_cases h3:1000<t.size
  ·have e3:decide (1000<(t.size:Int))=true:=decide_eq_true (by omega)
   clear hov h3 bl ll
   go_enter Tryz.func5,Tryz.ntmps5
   go_wp2_with fail
   refine HOV.out.mono ?_
   rintro e w1 ⟨rfl,rfl⟩
   go_wp2_with fail
   refine(xbI _ (HQ.out _ HB0.out.2)).mono ?_
   rintro e wz ⟨rfl,hbz⟩
   have HBZ:=lH (Below.trans HB0.out.2 (hbz.mono (Below.size HB0.out.2)))
   clear hbz
   go_wp2_with fail
   go_ret
   exact⟨rfl,HBZ.out⟩
  by_cases h4:100<u.size
  ·have e3:decide (1000<(t.size:Int))=false:=decide_eq_false (by omega)
   have e4:decide (100<(u.size:Int))=true:=decide_eq_true (by omega)
   clear hov h3 h4 bl ll
   go_enter Tryz.func5,Tryz.ntmps5
   go_wp2_with fail
   refine HOV.out.mono ?_
   rintro e w1 ⟨rfl,rfl⟩
   go_wp2_with fail
   refine(xbI _ (HQ.out _ HB0.out.2)).mono ?_
   rintro e wz ⟨rfl,hbz⟩
   have HBZ:=lH (Below.trans HB0.out.2 (hbz.mono (Below.size HB0.out.2)))
   clear hbz
   go_wp2_with fail
   go_ret
   exact⟨rfl,HBZ.out⟩
  have e4:decide (100<(u.size:Int))=false:=decide_eq_false (by omega)
  have e3:decide (1000<(t.size:Int))=false:=decide_eq_false (by omega)
  clear hov
  go_enter Tryz.func5,Tryz.ntmps5
  go_wp2_with fail
  refine HOV.out.mono ?_
  rintro e w1 ⟨rfl,hw1⟩
  subst hw1
  generalize w.alloc (.cells #[.int .i64 b,.int .u8 k,.string t] 53)=w1 at *
  go_wp2_with fail
  refine(HOW.out (by omega)).mono ?_
  rintro e w2 ⟨s,d,rfl,hch,hd,hb2⟩
  obtain⟨a5,n5,p5,rfl⟩:=hch.form
  have hal:(xvW l).length≤80:=by have:=xrX l [];unfold xvW;simp at this;omega
  have hab:xat (xvW l)≤4000:=by have:=xj0 l [];unfold xvW;simp[xat] at this;omega
  generalize hac:xvW l=L at *
  have b5:=xae w2 (.cells #[.slice a5 n5 p5] 36)
  have hx2:=hb2.trans (b5.mono hb2.size)
  have HS:=lH (show StW w _ w2.heap.size b k t (.slice a5 n5 p5) L from ⟨HB0.out.1.below hx2,xaX w2 (.slice a5 n5 p5) 36,hch.below b5,HB0.out.2.trans (hx2.mono HB0.out.2.size)⟩)
  have HG:=lH hch.good
  clear hch hd hb2 b5 hx2 HOV HOW hac bl ll HB0 c2
  go_upto_region 4 with fail
  generalize w2.alloc (.cells #[.slice a5 n5 p5] 36)=w3 at *
  generalize w2.heap.size=g5 at *
  obtain⟨r0,r1,r2,q5,lp⟩:=HS.out.facts
  have HPR:=lH (xgM (.slice a5 n5 p5) L b k t w3 (HQ.out _ HS.out.bel) HS.out.c5 (by omega) xk xb (by omega))
  unfold xcl at lp HPR
  obtain⟨P,hP⟩:∃ P,xbs L b k t=P:=⟨_,rfl⟩
  rw[hP] at HPR
  obtain⟨y,z⟩:=P
  have htT:totF (xaj L).2≤4000:=by have:=xos L;omega
  go_wp2_with fail
  refine HPR.out.mono ?_
  rintro e w4 ⟨rfl,hb4⟩
  have HS4:=lH (HS.out.below hb4)
  clear hb4 HS HPR r0 r1 r2 q5 lp
  by_cases hz:z=0
  ·subst hz
   have hck:=xn0 (L:=L) (b:=b) (k:=k) (s:=t) (by rw[hP])
   obtain⟨y',X,p,h1,WP⟩:=xt1 HG.out (show L.length≤150 by omega) xk (show t.size≤1000 by omega) (by omega) hck
   rw[hP] at h1
   obtain rfl:y=y':=congrArg Prod.fst h1
   clear h1 hck hP
   have hnv:nvC (y++u)=(L,0):=xyN WP u
   have hsz:(y++u).size≤1000000:=by have:=WP.sz2;simp only[ByteArray.size_append];omega
   have HRD:=lH (fun W=>xi3 (y++u) W hsz)
   have HTI:=lH (fun q W=>xg4 (y++u) q W hsz)
   have HTL:=lH (fun x=>xy0 (s:=y++u) (by rw[hnv]) x)
   rw[hnv] at HRD HTL
   have hys:y.size+u.size≤9223372036854775807:=by have:=WP.sz;omega
   clear WP hnv hsz
   generalize hyu:y++u=yu at *
   have HYU:=lH hyu
   clear hyu
   go_wp2_with fail
   try rw[HYU.out]
   refine(HRD.out _).mono ?_
   rintro e w6 ⟨s6,rfl,hc6,hb6⟩
   obtain⟨a6,n6,p6,rfl⟩:=hc6.form
   have h6:=xae w6 (.cells #[.slice a6 n6 p6] 36)
   have hx6:=hb6.trans (h6.mono hb6.size)
   have HS6:=lH (HS4.out.below hx6)
   have HD6:=lH (And.intro (xaX w6 (.slice a6 n6 p6) 36) (hc6.below h6))
   clear hb6 hc6 h6 hx6 HRD HS4
   go_upto_region 8 with fail
   generalize w6.alloc (.cells #[.slice a6 n6 p6] 36)=W6 at *
   generalize w6.heap.size=gd at *
   obtain⟨r0,r1,r2,q5,lp⟩:=HS6.out.facts
   have q6:=HD6.out.1.cell
   have HSM:=lH (xmS _ _ L L W6 HS6.out.c5 HD6.out.2)
   rw[decide_eq_true (rfl:L=L)] at HSM
   go_wp2_with fail
   refine HSM.out.mono ?_
   rintro e w7 ⟨rfl,hb7⟩
   have HS7:=lH (HS6.out.below hb7)
   clear hb7 HSM HD6 q6 r0 r1 r2 q5 lp HS6
   obtain⟨av,cv,hvv⟩:∃ a c,v=.slice a l.length c:=by
    obtain⟨a,c,e,_⟩:=HV.out w (Below.refl _ _)
    exact⟨a,c,e⟩
   subst hvv
   have hll:l.length≤80:=hllx
   go_wp2_with fail
   go_loopw [13] (fun x wr=>∃ i:Nat,i≤l.length∧i≤6∧x=.int .i64 i∧Hid (StW w wr g5 b k t (.slice a5 n5 p5) L)) (fun x _=>l.length - (intOf x).toNat)
   case atStart=>exact⟨0,Nat.zero_le _,by omega,rfl,HS7⟩
   case round =>
    obtain⟨i,hi,hi6,rfl,HSW⟩:=hrel
    by_cases hlt:i<l.length∧i<6
    ·obtain⟨hl1,hl2⟩:=hlt
     obtain⟨⟨x,xt⟩,ht⟩:∃ t,l[i]?=some t:=⟨_,List.getElem?_eq_getElem hl1⟩
     have hxb:=(HMM.out (x,xt) (List.mem_of_getElem? ht)).1
     dsimp only at hxb
     obtain⟨a',c',hav,_,_,hcc⟩:=HV.out _ HSW.out.bel
     obtain⟨g,off,rfl,hg,k0,k1⟩:=hcc i (x,xt) ht
     cases hav
     have hi2:(i:Int)<(l.length:Int):=by omega
     have hi3:(i:Int)<6:=by omega
     obtain⟨_,_,_,q5,_⟩:=HSW.out.facts
     have HG1:=lH (fun X (hX:Below wr.heap.size wr X)=>xtM (.slice a5 n5 p5) L x X (HSW.out.c5.below hX) hxb)
     have HT1:=lH (fun W=>HTI.out (x:Int) W)
     rw[HTL.out x] at HT1
     dsimp only at HT1
     generalize xsF (xa9 x L)=tt at *
     generalize (xa9 x L).isSome=tb at *
     have HCC:=lH (fun X (hX:Below wr.heap.size wr X)=>(hX.cell (p:=⟨g,off+i*2,none⟩) hg).trans k0)
     have hst:=xeb (rfl:tt=tt)
     clear ht hcc hg
     go_upto_region 13 with fail
     go_cut [14,15] from 66 to 110 (fun x1 x2 wx=>x1=.string tt∧x2=.bool tb∧Below wr.heap.size wr wx)
     case first =>
      go_region_with (go_at_call 30;refine(HG1.out _ (by go_grown)).mono ?_;rintro e w8 ⟨rfl,hb8⟩;have hbB:=Below.trans (by go_grown:Below wr.heap.size wr _) (hb8.mono (by simp)))
      all_goals
       go_wp2_with fail
       go_meet
       case rel=>exact⟨rfl,rfl,hbB⟩
     case rest =>
      obtain⟨rfl,rfl,hb8⟩:=hcut
      generalize wc=w8 at *
      have HB8:=lH hb8
      have k2:=HCC.out _ hb8
      clear hb8 k0 k1 HCC q5
      go_wp2_with fail
      try rw[HYU.out]
      refine(HT1.out _).mono ?_
      rintro e w9 ⟨rfl,hb9⟩
      have HS9:=lH (HSW.out.below (HB8.out.trans (hb9.mono HB8.out.size)))
      clear hb9 HT1 k2 HB8
      go_wp2_with fail
      go_roundw
      case rel=>exact⟨i+1,by omega,by omega,by go_num,HS9⟩
      case measure=>simp[intOf];omega
    ·have HAW2:=lH (xbI wr (HQ.out _ HSW.out.bel))
     by_cases hl1:i<l.length
     ·have hi2:(i:Int)<(l.length:Int):=by omega
      have hi3:¬ (i:Int)<6:=by omega
      go_wp2_with fail
      refine HAW2.out.mono ?_
      rintro e w8 ⟨rfl,hb8⟩
      have HB8:=lH (HSW.out.bel.trans (hb8.mono HSW.out.bel.size))
      clear hb8 HAW2
      go_wp2_with fail
      go_ret
      exact⟨rfl,HB8.out⟩
     ·have hi2:¬ (i:Int)<(l.length:Int):=by omega
      go_wp2_with fail
      refine HAW2.out.mono ?_
      rintro e w8 ⟨rfl,hb8⟩
      have HB8:=lH (HSW.out.bel.trans (hb8.mono HSW.out.bel.size))
      clear hb8 HAW2
      go_wp2_with fail
      go_ret
      exact⟨rfl,HB8.out⟩
  ·have hz1:(z == 0)=false:=by simp[hz]
   obtain⟨hk1,hk2⟩:=xpP (L:=L) (b:=b) (k:=k) (s:=t) HG.out (by omega) xk (by omega) (by rw[hP];exact hz)
   rw[hP] at hk2
   obtain⟨rfl,rfl⟩:y=noB∧z=ckP b k t:=by injection hk2 with h1 h2;exact⟨h1,h2⟩
   unfold noB
   clear hk1 hk2 hP
   generalize ckP b k t=z at *
   go_wp2_with fail
   refine(xbI _ (HQ.out _ HS4.out.bel)).mono ?_
   rintro e wz ⟨rfl,hbz⟩
   have HBZ:=lH (Below.trans HS4.out.bel (hbz.mono (Below.size HS4.out.bel)))
   clear hbz
   go_wp2_with fail
   go_ret
   exact⟨rfl,HBZ.out⟩
end Go.Proofs.YtjinnigjfopbcaaGreatDoor
namespace Go.Proofs.YtjinnigjfopbcaaGreatDoor
set_option linter.unusedVariables false
set_option linter.unusedSimpArgs false
open Go.ChangeShapes Go.WideShapes Go.ChangeAt Go.RowKit Go.Joins Go.Deep
set_option maxRecDepth 100000
theorem xox:Tryz.prog.cellsOf 53=3:=by kernel_rfl
theorem xqE {H:Type} {enc:TypeId × Value→H} {W:World} {base n:Nat} {spare:Nat→Bool} {held:Bool} {cs:List Value} {z:DataW H × List MemPlace}
  (h:DataW.trod enc Tryz.prog W base spare held n 53 cs=some z):∃ e:Int × Int × ByteArray,cs=[.int .i64 e.1,.int .u8 e.2.1,.string e.2.2]∧PlanIn e:=by
 have cu:Tryz.prog.cellsOf 3=1:=by kernel_rfl
 have cb:Tryz.prog.cellsOf 5=1:=by kernel_rfl
 have cw:Tryz.prog.cellsOf 9=1:=by kernel_rfl
 obtain⟨xs,k,_,_,hl,hxl,hfs⟩:=DataW.trod_struct Tryz.underlying53 h
 rw[xox] at hl
 match cs,hl,xs,hxl,hfs with
 | [x0,x1,x2],_,[y0,y1,y2],_,hfs =>
  have g0:=hfs 0 _ rfl
  have g1:=hfs 1 _ rfl
  have g2:=hfs 2 _ rfl
  simp[cu,cb,cw] at g0 g1 g2
  obtain⟨a0,e0,_,w0⟩:=DataW.trod_int Tryz.underlying3 g0
  obtain⟨a1,e1,_,w1⟩:=DataW.trod_int Tryz.underlying5 g1
  obtain⟨a2,e2,_,w2⟩:=DataW.trod_string Tryz.underlying9 g2
  simp at e0 e1 e2
  subst e0 e1 e2
  have h0:=bounds_i64 w0
  have h1:=bounds_u8 w1
  exact⟨⟨a0,a1,a2⟩,rfl,⟨by simp only;omega,by unfold U8;simp only;omega,w2⟩⟩
theorem plan_opened {H:Type} {enc:TypeId × Value→H} {W:World} {base b0:Nat} {r:Reach} {spare:Nat→Bool} {held:Bool} {v:Value} {d:DataW H} {p:List MemPlace}
  (hv:Value.okWide Tryz.prog W r b0 53 v) (h:DataW.Trod enc Tryz.prog W base spare held 53 v d p) :
  ∃ e:Int × Int × ByteArray,v=.agg #[.int .i64 e.1,.int .u8 e.2.1,.string e.2.2]∧PlanIn e:=by
 obtain⟨cs,rfl,hsz⟩:=okWide_struct Tryz.underlying53 hv
 obtain⟨fuel,hf⟩:=h
 obtain⟨e,he,hm⟩:=xqE hf
 refine⟨e,?_,hm⟩
 obtain⟨l⟩:=cs
 have he':l=[.int .i64 e.1,.int .u8 e.2.1,.string e.2.2]:=he
 rw[he']
end Go.Proofs.YtjinnigjfopbcaaGreatDoor
