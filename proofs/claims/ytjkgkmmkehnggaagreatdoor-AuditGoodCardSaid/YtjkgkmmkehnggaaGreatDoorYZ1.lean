/- Za Wa Wb Zb Zc Zd Ze Zf Zg Zh Zj. -/
import Derived.Test.YtjkgkmmkehnggaaGreatDoorYs
import Derived.Test.YtjkgkmmkehnggaaGreatDoorYd5
import Derived.Test.YtjkgkmmkehnggaaGreatDoorYa8
import Derived.Test.YtjkgkmmkehnggaaGreatDoorYa9
import Derived.Test.YtjkgkmmkehnggaaGreatDoorYc5
set_option maxHeartbeats 16000000
namespace Go.Proofs.YtjkgkmmkehnggaaGreatDoor
set_option linter.unusedVariables false
set_option linter.unusedSimpArgs false
open Go.RowKit
set_option maxRecDepth 20000
def xu3:Js→Bool
 | .obj _=>true
 | _=>false
def ckP (b k:Int) (s:ByteArray):Int :=
 if b<512∨16257<b then 15 else if 5<k then 14 else if (xd5 (bI s)).2.2≠0 then (xd5 (bI s)).2.2 else if xu3 (xd5 (bI s)).1=true then 0 else 4
def hdP (L:List It) (k:Int):Hd:=⟨0,0,0,0,0,0,0,0,(L.length:Nat),((xad L).1.length:Nat),(conN (xad L).1:Nat),true,1,1,k,zlo L,zhi L,-1800000000,-850511287,1800000000,850511287,zlo L,0,0⟩
def ptP (L:List It) (b:Int) (s:ByteArray):Pt:=⟨xpX (xaq (xad L).1 b).root,s,(xaq (xad L).1 b).text,xb7 (xad L).2⟩
def xcr (L:List It) (b k:Int) (s:ByteArray):ByteArray × Int :=
 if ckP b k s≠0 then (noB,ckP b k s) else if (xaq (xad L).1 b).err≠0 then (noB,(xaq (xad L).1 b).err) else xbB (hdP L k) (ptP L b s)
theorem xxh (t:It) (h:t.1<6004799503160661):0≤xhr (t.1:Int)∧xhr (t.1:Int)≤26:=by
 obtain⟨k,hk,_,_,e⟩:=xiN (t.1:Int) (by omega) (by omega)
 rw[e];omega
theorem xB3 {a b:Int} (h0:0≤a) (hab:a≤b) (hb:b<6004799503160661):xhr a≤xhr b:=by
 obtain⟨i,hi,a1,a2,ea⟩:=xiN a h0 (by omega)
 obtain⟨j,hj,b1,b2,eb⟩:=xiN b (by omega) hb
 rw[ea,eb]
 rcases Nat.lt_or_ge j i with h|h
 ·have:=xiM (j+1) i (by omega)
  rw[xn1] at this
  omega
 ·omega
theorem xxq {L:List It} (hg:GoodC L):0≤zlo L∧zlo L≤zhi L∧zhi L≤26:=by
 cases L with
 | nil=>exact⟨Int.le_refl _,Int.le_refl _,by decide⟩
 | cons t m =>
  obtain⟨u,hu⟩:∃ u,(t :: m).getLast?=some u:=⟨_,List.getLast?_eq_some_getLast (by simp)⟩
  have hm:u ∈ t :: m:=List.mem_of_getLast? hu
  have h1:=xxh t (hg.low t (by simp))
  have h2:=xxh u (hg.low u hm)
  have e:zhi (t :: m)=xhr (u.1:Int):=by unfold zhi;rw[hu]
  have e2:zlo (t :: m)=xhr (t.1:Int):=rfl
  rw[e,e2]
  refine⟨h1.1,xB3 (by omega) ?_ (by have:=hg.low u hm;omega),h2.2⟩
  rcases List.mem_cons.1 hm with rfl|hm'
  ·omega
  ·have:=(List.pairwise_cons.1 hg.rise).1 u hm';omega
theorem xcw {L:List It} (hg:GoodC L):xaT (xad L).1:=fun e he=>((xcA hg).ok e he).may
theorem xk8 {L:List It} (hg:GoodC L):xal (xad L).1=[]:=by
 unfold xal
 refine List.filter_eq_nil_iff.2 (fun e he=>?_)
 have:=((xcA hg).ok e he).run
 simp only[decide_eq_true_eq]
 omega
theorem xvD {L:List It} (hg:GoodC L):xa2 (xad L).1=0:=(xdF hg).2.1
theorem xdL {L:List It} (hg:GoodC L):(xad L).1.length≤L.length:=(xdF hg).2.2.2.2.1
theorem xBO (l:List En) (b:Int) (n:Nat):∀ (j f m:Nat),j<f→xtM b (xbT (2 ^ j*m) l)=true→∃ k,goS l b f m=some k:=by
 intro j
 induction j with
 | zero =>
  intro f m h hf
  obtain⟨f,rfl⟩:∃ g,f=g+1:=⟨f - 1,by omega⟩
  rw[Nat.pow_zero,Nat.one_mul] at hf
  exact⟨m,by rw[goS,if_pos hf]⟩
 | succ j ih =>
  intro f m h hf
  obtain⟨f,rfl⟩:∃ g,f=g+1:=⟨f - 1,by omega⟩
  rw[goS]
  split
  ·exact⟨_,rfl⟩
  ·refine ih f (2*m) (by omega) ?_
   rw[show 2 ^ j*(2*m)=2 ^ (j+1)*m by rw[Nat.pow_succ,Nat.mul_assoc]]
   exact hf
theorem xqI (l:List En):xfR l≤10+40*l.length:=by
 unfold xfR
 have:=(xct l).2
 split <;> omega
theorem xpP {l:List En} {b:Int} (hm:xaT l) (hr:xa2 l=0) (hlv:xal l=[]) (hl:l.length≤150) (h0:512≤b) (h1:b≤16257):(xaq l b).err=0:=by
 unfold xaq
 rw[if_neg (by omega),if_neg (by simp[hr]),if_neg (by simp[hlv])]
 split
 ·rfl
 rename_i h4
 have hne:l≠[]:=by
  rintro rfl
  have:=xqI []
  simp at this
  omega
 have hf:xtM b (xbT (2 ^ 8*1) l)=true:=by
  rw[xld _ (by omega) hl,decide_eq_true_eq]
  have:=xqI (xaC 0 (xbT (2 ^ 8*1) l))
  rw[xcd,xjk _ (by omega) l hne (by omega)] at this
  rw[xjk _ (by omega) l hne (by omega)]
  simp at this
  omega
 obtain⟨k,hk⟩:=xBO l b 0 8 13 1 (by omega) hf
 rw[hk]
structure Spl (l:List En) (b:Int):Prop where
 may:xaT (xaq l b).root
 row:xa2 (xaq l b).root=0
 len:(xaq l b).root.length≤l.length
 fit:((xau (xaq l b).root).length:Int)≤b
 text:(xaq l b).text.size≤10*l.length+40*l.length
theorem xsf {l:List En} {b:Int} (hm:xaT l) (hl:l.length≤150) (he:(xaq l b).err=0):Spl l b:=by
 obtain⟨b0,b1,hr,hlv,h⟩:=xex he
 rcases h with ⟨h,e⟩|⟨h,n,hn,hf,e⟩
 ·rw[xfR,if_pos hr] at h
  exact⟨by rw[e];exact hm,by rw[e];exact hr,by rw[e];exact Nat.le_refl _,by rw[e];exact h,by rw[e];exact Nat.zero_le _⟩
 ·have hrow:=xhU n hn hm hr (by omega)
  have hlen:(xaC 0 (xbT n l)).length≤l.length:=by rw[xcd];exact xgk n hn l
  rw[xld n hn hl,decide_eq_true_eq,xfR,if_pos hrow] at hf
  have hb:=xgG (xbT n l)
  have hc:=xgk n hn l
  rw[xcx n hn l] at hb
  refine⟨?_,by rw[e];exact hrow,by rw[e];exact hlen,by rw[e];exact hf,by rw[e];show (str (xaI (xbT n l))).size≤_;rw[xbv];omega⟩
  rw[e]
  refine xjN (by rw[xcx n hn l];exact hm) (fun p hp=>(xjc n hn l p hp).1) (fun p hp=>?_) (by omega)
  have h1:=(xct p).2
  have h2:p.length≤l.length:=by
   have:=xcx n hn l
   obtain⟨x,y,hxy⟩:=List.append_of_mem hp
   rw[hxy,List.flatten_append,List.flatten_cons] at this
   have:=congrArg List.length this
   rw[List.length_append,List.length_append] at this
   omega
  omega
theorem xxg {l:List En} (hr:xa2 l=0) (hs:(xau l).length≤65536):xmr l=0∧xpX l=str (xau l):=by
 have h:xmr l=0:=by unfold xmr;rw[if_pos hr,if_neg (by omega)]
 exact⟨h,by unfold xpX;rw[if_pos h]⟩
theorem xAF {L:List It} (hg:GoodC L):(xb7 (xad L).2).size≤134217728:=by
 have:=xBi hg L.length (Nat.le_refl _)
 rw[List.take_length] at this
 rw[xdB];exact this
theorem xsB {L:List It} {b:Int} {s:ByteArray} (hg:GoodC L) (hl:L.length≤150) (hs:s.size≤1000000) (he:(xaq (xad L).1 b).err=0) (hb:b≤16257):Few (ptP L b s) 200000000:=by
 have hlen:=xdL hg
 have S:=xsf (xcw hg) (by omega) he
 have h1:=S.fit
 have h2:=S.text
 have h3:=xAF hg
 obtain⟨e1,e2⟩:=xxg S.row (by omega)
 refine⟨?_,by show s.size≤_;omega,by show (xaq (xad L).1 b).text.size≤_;omega,by show (xb7 (xad L).2).size≤_;omega⟩
 show (xpX (xaq (xad L).1 b).root).size≤_
 rw[e2,xbv]
 omega
theorem xxo (l:List En):conN l≤l.length:=by
 unfold conN
 refine Nat.le_trans (xyr _) ?_
 unfold xhu
 rw[List.length_map]
 exact List.length_filter_le _ _
theorem xna {L:List It} {k:Int} (hg:GoodC L) (hk:U8 k):xeR (hdP L k):=by
 have h1:=xxq hg
 have h2:=hg.few
 have h3:=xdL hg
 have h4:=xxo (xad L).1
 unfold U8 at hk
 unfold xeR hdP U64 U8
 simp only
 omega
theorem xnI {L:List It} {b k:Int} {s:ByteArray} (hg:GoodC L) (hl:L.length≤150) (hk:U8 k) (hs:s.size≤1000000) (hc:ckP b k s=0) :
  (xaq (xad L).1 b).err=0∧(xbB (hdP L k) (ptP L b s)).2=0∧xcr L b k s=xbB (hdP L k) (ptP L b s):=by
 have hb:512≤b∧b≤16257∧k≤5:=by
  unfold ckP at hc
  split at hc
  ·cases hc
  split at hc
  ·cases hc
  omega
 have hlen:=xdL hg
 have he:=xpP (xcw hg) (xvD hg) (xk8 hg) (by omega) hb.1 hb.2.1
 have hf:=xsB hg hl hs he hb.2.1
 have hz:=xxq hg
 have hck:ckH (xde (hdP L k) (xdf (ptP L b s)).sec)=0:=by
  rw[xhd hf]
  obtain⟨f0,f1,f2,f3⟩:=hf
  generalize ptP L b s=p at *
  unfold U8 at hk
  unfold ckH xcG xfE xdd xp2 xhf xde hdP
  simp only[Bool.and_eq_true,decide_eq_true_eq]
  rw[if_pos (by omega),if_pos (by omega),if_pos (by omega),if_pos (by omega)]
 have hgl:(xbB (hdP L k) (ptP L b s)).2=0:=by
  unfold xbB
  rw[if_neg (by rw[xhd hf];simp),if_neg (by unfold xg2;rw[if_pos hck];simp)]
 refine⟨he,hgl,?_⟩
 unfold xcr
 rw[if_neg (by simpa using hc),if_neg (by simpa using he)]
def xeh (s:ByteArray) (f l:Int):ByteArray:=s.extract (min f (s.size:Int)).toNat (min (f+l) (s.size:Int)).toNat
def xep (h:Hd) (n:Int):Bool:=decide (h.rf=127) && (decide (h.mf=h.rf+h.rl) && (decide (h.lf=h.mf+h.ml) && (decide (h.df=h.lf+h.ll) && decide (h.df+h.dl=n))))
def xwm (e:En) (d:ByteArray):List UInt8:=(d.extract e.off.toNat (e.off+e.ln).toNat).data.toList
def xfm (e:En) (d:ByteArray):Option (List En) :=
 if (d.size:Int)<e.off+e.ln then none else if (xco (xwm e d)).2.2≠0 then none else
 if (xco (xwm e d)).1=[]∨(gS (xco (xwm e d)).1 0).id≠e.id then none else some (xco (xwm e d)).1
structure Asked where
 l:List En
 lf:Bool
 dp:Bool
def xrr (l:List En):Bool:=l.any fun x=>decide (x.rn=0)
def xip (d:ByteArray) (a:Asked) (e:En):Asked :=
 if e.rn≠0 then ⟨a.l++[e],a.lf,a.dp⟩ else match xfm e d with
 | none=>⟨a.l,true,a.dp⟩
 | some k=>⟨a.l++k,a.lf,a.dp || xrr k⟩
def xjd (d:ByteArray) (l:List En):Asked:=l.foldl (xip d) ⟨[],false,false⟩
def xpF (l:List En):Nat→Bool
 | 0=>true
 | i+1=>xpF l i && (decide (i=0) || decide (laN (gS l (i - 1))<(gS l i).id))
def xAs (a b:En):Bool:=decide (b.id=laN a+1) && (decide (b.off=a.off) && decide (b.ln=a.ln))
def xpn (l:List En):Nat→Bool
 | 0=>true
 | i+1=>xpn l i && (decide (i=0) || !xAs (gS l (i - 1)) (gS l i))
def inT (l:List En) (n:Int):Nat→Bool
 | 0=>true
 | i+1=>inT l n i && decide ((gS l i).off+(gS l i).ln≤n)
def xu9 (l:List En):Nat→Int
 | 0=>0
 | i+1=>xu9 l i+(gS l i).rn
def prE (e:En):Int × Int:=(e.off,e.ln)
def ltP (a b:Int × Int):Bool:=decide (a.1<b.1) || (decide (a.1=b.1) && decide (a.2<b.2))
def atT (out:List En) (p:Int × Int):Nat→Nat
 | 0=>0
 | k+1=>if ltP (prE (gS out k)) p then k+1 else atT out p k
def isT (out:List En) (p:Int × Int):Nat→Bool
 | 0=>false
 | k+1=>isT out p k || decide (prE (gS out k)=p)
def xqG (out:List En) (e:En):List En:=if isT out (prE e) out.length then out else out.take (atT out (prE e) out.length)++[e]++out.drop (atT out (prE e) out.length)
def xje (l:List En):List En:=l.foldl xqG []
instance xDv (s:ByteArray) (l:List ByteArray):Decidable (s ∈ l):=decidable_of_iff (l.any (fun x=>decide (x=s))=true) (by simp)
def xyn (d:ByteArray) (p:Int × Int):ByteArray:=d.extract p.1.toNat (p.1+p.2).toNat
def xeq (d:ByteArray):Int→List ByteArray→List (Int × Int)→Bool
 | a,_,[]=>decide (a=(d.size:Int))
 | a,seen,p :: r=>if p.1≠a then false else if xyn d p ∈ seen then false else xeq d (p.1+p.2) (seen++[xyn d p]) r
def xbq:Int→List Bool→List Int
 | _,[]=>[]
 | k,b :: r=>if b=true then xbq (k+1) r else k :: xbq (k+1) r
def xtN (l:List En):Int:=if l=[] then 0 else xhr (gS l 0).id
def xvm (l:List En):Int:=if l=[] then 0 else xhr (laN (gS l (l.length - 1)))
def xj6 (h:Hd) (l:List En) (d:ByteArray):List Bool :=
 [xpF l l.length,inT l d.size l.length,xpn l l.length,!inT l d.size l.length || xeq d 0 [] ((xje l).map prE),
  decide (h.ad=xu9 l l.length) && (decide (h.en=(l.length:Int)) && decide (h.co=((xje l).length:Int))),decide (h.z0=xtN l) && decide (h.z1=xvm l)]
def xht (h:Hd) (s:ByteArray):List En × Nat × Int:=xco (xeh s h.rf h.rl).data.toList
def xAQ (h:Hd) (b:Int):Bool:=decide (0≤b) && decide (h.rl≤b)
def xeo (h:Hd) (s:ByteArray) (b:Int):List Bool :=
 [decide (xfW h s.size=0),xep h s.size,decide (h.inn=1) && (decide (h.out=1) && h.cl),xu3 (xd5 (bI (xeh s h.mf h.ml))).1,xAQ h b,decide ((xht h s).2.2=0)]
def xhs (h:Hd) (s:ByteArray):List Int :=
 if ((xjd (xeh s h.lf h.ll) (xht h s).1).lf || (xjd (xeh s h.lf h.ll) (xht h s).1).dp)=true then xbq 8 [!(xjd (xeh s h.lf h.ll) (xht h s).1).lf,!(xjd (xeh s h.lf h.ll) (xht h s).1).dp]
 else xbq 10 (xj6 h (xjd (xeh s h.lf h.ll) (xht h s).1).l (xeh s h.df h.dl))
def xmo (h:Hd) (s:ByteArray) (b:Int):List Int:=if (xht h s).2.2≠0 then xbq 2 (xeo h s b) else xbq 2 (xeo h s b)++xhs h s
def xbs (s:ByteArray) (b:Int):List Int:=if (xcB (xb2 s)).2≠0 then [1] else xmo (xcB (xb2 s)).1 s b
theorem xsV (k x:Int) (l:List Bool):x ∈ xbq k l↔∃ i:Nat,l[i]?=some false∧x=k+i:=by
 induction l generalizing k with
 | nil=>simp[xbq]
 | cons b r ih =>
  have h2:(∃ i:Nat,(b :: r)[i]?=some false∧x=k+i)↔(b=false∧x=k)∨∃ i:Nat,r[i]?=some false∧x=k+1+i:=by
   constructor
   ·rintro⟨i,hi,hx⟩
    cases i with
    | zero=>simp at hi;exact .inl ⟨hi,by simpa using hx⟩
    | succ i=>exact .inr ⟨i,by simpa using hi,by omega⟩
   ·rintro(⟨rfl,rfl⟩|⟨i,hi,hx⟩)
    ·exact⟨0,rfl,by simp⟩
    ·exact⟨i+1,by simpa using hi,by omega⟩
  rw[h2,xbq]
  cases b with
  | true=>rw[if_pos rfl,ih];simp
  | false=>rw[if_neg (by simp),List.mem_cons,ih];simp
theorem xeN {k x:Int} {l:List Bool} (h:x ∈ xbq k l):k≤x∧x<k+l.length:=by
 obtain⟨i,hi,hx⟩:=(xsV k x l).1 h
 have:=(List.getElem?_eq_some_iff.1 hi).1
 omega
theorem xiO (k:Int) (l:List Bool):(xbq k l).Pairwise (·<·):=by
 induction l generalizing k with
 | nil=>exact List.Pairwise.nil
 | cons b r ih =>
  rw[xbq]
  split
  ·exact ih _
  ·refine List.pairwise_cons.2 ⟨fun y hy=>?_,ih _⟩
   have:=(xeN hy).1
   omega
theorem xtY {a b:List Int} {m:Int} (ha:a.Pairwise (·<·)) (hb:b.Pairwise (·<·)) (h1:∀ x ∈ a,x<m) (h2:∀ x ∈ b,m≤x):(a++b).Pairwise (·<·) :=
 List.pairwise_append.2 ⟨ha,hb,fun x hx y hy=>by have:=h1 x hx;have:=h2 y hy;omega⟩
theorem xiI {h:Hd} {s:ByteArray} {b x:Int} (hx:x ∈ xbq 2 (xeo h s b)):2≤x∧x<8:=by
 have:=xeN hx
 have e:(xeo h s b).length=6:=rfl
 rw[e] at this
 omega
theorem xqP {h:Hd} {s:ByteArray} {x:Int} (hx:x ∈ xhs h s):8≤x∧x≤15:=by
 unfold xhs at hx
 split at hx
 ·have:=xeN hx;simp only[List.length_cons,List.length_nil] at this;omega
 ·have:=xeN hx
  have e:∀ l d,(xj6 h l d).length=6:=fun _ _=>rfl
  rw[e] at this
  omega
theorem xzk (h:Hd) (s:ByteArray):(xhs h s).Pairwise (·<·):=by
 unfold xhs
 split <;> exact xiO _ _
theorem xyX (h:Hd) (s:ByteArray) (b:Int):(xmo h s b).Pairwise (·<·)∧∀ x ∈ xmo h s b,2≤x∧x≤15:=by
 unfold xmo
 split
 ·exact⟨xiO _ _,fun x hx=>by have:=xiI hx;omega⟩
 ·refine⟨xtY (m:=8) (xiO _ _) (xzk h s) (fun x hx=>(xiI hx).2) (fun x hx=>(xqP hx).1),fun x hx=>?_⟩
  rcases List.mem_append.1 hx with hx|hx
  ·have:=xiI hx;omega
  ·have:=xqP hx;omega
theorem xwY (s:ByteArray) (b:Int):(xbs s b).Pairwise (·<·)∧∀ x ∈ xbs s b,1≤x∧x≤15:=by
 unfold xbs
 split
 ·simp
 ·have:=xyX (xcB (xb2 s)).1 s b
  exact⟨this.1,fun x hx=>by have:=this.2 x hx;omega⟩
theorem xg9 (k:Int) (l:List Bool):(xbq k l).length≤l.length:=by
 induction l generalizing k with
 | nil=>exact Nat.le_refl _
 | cons b r ih =>
  have:=ih (k+1)
  rw[xbq]
  split <;> simp only[List.length_cons] <;> omega
theorem xkT (s:ByteArray) (b:Int):(xbs s b).length≤12:=by
 unfold xbs
 split
 ·simp
 unfold xmo
 have h1:=xg9 2 (xeo (xcB (xb2 s)).1 s b)
 have e1:(xeo (xcB (xb2 s)).1 s b).length=6:=rfl
 split
 ·omega
 ·rw[List.length_append]
  have h2:(xhs (xcB (xb2 s)).1 s).length≤6:=by
   unfold xhs
   split
   ·exact Nat.le_trans (xg9 _ _) (by simp)
   ·exact xg9 _ _
  omega
theorem xdj (a b:Int × Int):ltP a b=true↔a.1<b.1∨a.1=b.1∧a.2<b.2:=by unfold ltP;simp
theorem xgB {a b c:Int × Int} (h1:ltP a b=true) (h2:ltP b c=true):ltP a c=true:=by rw[xdj] at *;omega
theorem xry {a b:Int × Int} (h:ltP a b=true):ltP b a=false:=by rw[← Bool.not_eq_true,xdj];rw[xdj] at h;omega
theorem xkp {a b:Int × Int} (h:¬ ltP a b=true) (hn:a≠b):ltP b a=true:=by
 obtain⟨a1,a2⟩:=a
 obtain⟨b1,b2⟩:=b
 rw[xdj] at *
 simp only at *
 by_cases e1:a1=b1
 ·by_cases e2:a2=b2
  ·exact absurd (by rw[e1,e2]) hn
  ·omega
 ·omega
def SU (l:List (Int × Int)):Prop:=l.Pairwise (fun a b=>ltP a b=true)
theorem xCi {out:List En} (h:SU (out.map prE)) {i j:Nat} (hij:i<j) (hj:j<out.length):ltP (prE (gS out i)) (prE (gS out j))=true:=by
 have:=List.pairwise_iff_getElem.1 h i j (by rw[List.length_map];omega) (by rw[List.length_map];omega) hij
 rw[List.getElem_map,List.getElem_map] at this
 have e1:=xw1 (l:=out) (k:=i) (List.getElem?_eq_getElem (by omega))
 have e2:=xw1 (l:=out) (k:=j) (List.getElem?_eq_getElem (by omega))
 rw[e1,e2]
 exact this
theorem xqY {out:List En} (p:Int × Int) (h:SU (out.map prE)):∀ n,n≤out.length→atT out p n≤n∧(∀ k,k<atT out p n→ltP (prE (gS out k)) p=true)∧∀ k,atT out p n≤k→k<n→ltP (prE (gS out k)) p=false
 | 0,_=>⟨Nat.le_refl _,fun k hk=>by simp[atT] at hk,fun k _ hk=>by omega⟩
 | n+1,hn=>by
  rw[atT]
  split
  ·rename_i hl
   refine⟨Nat.le_refl _,fun k hk=>?_,fun k h1 h2=>by omega⟩
   by_cases e:k=n
   ·rw[e];exact hl
   ·exact xgB (xCi h (show k<n by omega) (by omega)) hl
  ·rename_i hl
   obtain⟨h1,h2,h3⟩:=xqY p h n (by omega)
   refine⟨by omega,h2,fun k h4 h5=>?_⟩
   by_cases e:k=n
   ·rw[e];simpa using hl
   ·exact h3 k h4 (by omega)
theorem xms (out:List En) (p:Int × Int):∀ n,isT out p n=true↔∃ k,k<n∧prE (gS out k)=p
 | 0=>by simp[isT]
 | n+1=>by
  rw[isT,Bool.or_eq_true,xms out p n,decide_eq_true_eq]
  constructor
  ·rintro(⟨k,hk,e⟩|e)
   ·exact⟨k,by omega,e⟩
   ·exact⟨n,by omega,e⟩
  ·rintro⟨k,hk,e⟩
   by_cases h:k=n
   ·subst h;exact .inr e
   ·exact .inl ⟨k,by omega,e⟩
theorem xix {out:List En} {p:Int × Int}:p ∈ out.map prE↔∃ k,k<out.length∧prE (gS out k)=p:=by
 rw[List.mem_map]
 constructor
 ·rintro⟨e,he,rfl⟩
  obtain⟨k,hk,e1⟩:=List.mem_iff_getElem.1 he
  exact⟨k,hk,by rw[xw1 (List.getElem?_eq_getElem hk),e1]⟩
 ·rintro⟨k,hk,e⟩
  exact⟨_,xcO out k hk,e⟩
theorem xwC {out:List En} (e:En) (h:SU (out.map prE)):SU ((xqG out e).map prE)∧(∀ q,q ∈ (xqG out e).map prE↔q ∈ out.map prE∨q=prE e)∧(xqG out e).length≤out.length+1:=by
 unfold xqG
 cases hi:isT out (prE e) out.length with
 | true =>
  rw[if_pos rfl]
  refine⟨h,fun q=>⟨.inl,fun hq=>hq.elim id fun hq=>?_⟩,by omega⟩
  obtain⟨k,hk,e1⟩:=(xms out (prE e) _).1 hi
  rw[hq]
  exact xix.2 ⟨k,hk,e1⟩
 | false =>
  rw[if_neg (by simp)]
  have hno:∀ k,k<out.length→prE (gS out k)≠prE e:=fun k hk e1=>by
   have:=(xms out (prE e) out.length).2 ⟨k,hk,e1⟩
   rw[hi] at this;cases this
  obtain⟨h1,h2,h3⟩:=xqY (prE e) h out.length (Nat.le_refl _)
  generalize atT out (prE e) out.length=a at *
  have ht:∀ q ∈ (out.take a).map prE,ltP q (prE e)=true:=fun q hq=>by
   obtain⟨k,hk,e1⟩:=xix.1 hq
   rw[List.length_take] at hk
   rw[xzN _ _ _ (by omega)] at e1
   rw[← e1];exact h2 k (by omega)
  have hd:∀ q ∈ (out.drop a).map prE,ltP (prE e) q=true:=fun q hq=>by
   obtain⟨k,hk,e1⟩:=xix.1 hq
   rw[List.length_drop] at hk
   rw[xzJ] at e1
   rw[← e1]
   exact xkp (by rw[h3 (a+k) (by omega) (by omega)];simp) (hno _ (by omega))
  have hs:SU ((out.take a).map prE++(out.drop a).map prE):=by rw[← List.map_append,List.take_append_drop];exact h
  obtain⟨s1,s2,s3⟩:=List.pairwise_append.1 hs
  refine⟨?_,fun q=>?_,by simp;omega⟩
  ·rw[List.map_append,List.map_append]
   refine List.pairwise_append.2 ⟨List.pairwise_append.2 ⟨s1,by simp,fun x hx y hy=>?_⟩,s2,fun x hx y hy=>?_⟩
   ·simp only[List.map_cons,List.map_nil,List.mem_cons,List.not_mem_nil,or_false] at hy
    subst hy;exact ht x hx
   ·rcases List.mem_append.1 hx with hx|hx
    ·exact s3 x hx y hy
    ·simp only[List.map_cons,List.map_nil,List.mem_cons,List.not_mem_nil,or_false] at hx
     subst hx;exact hd y hy
  ·have e0:out.map prE=(out.take a).map prE++(out.drop a).map prE:=by rw[← List.map_append,List.take_append_drop]
   rw[e0]
   simp only[List.map_append,List.mem_append,List.map_cons,List.map_nil,List.mem_cons,List.not_mem_nil,or_false]
   constructor
   ·rintro((h|h)|h)
    ·exact .inl (.inl h)
    ·exact .inr h
    ·exact .inl (.inr h)
   ·rintro((h|h)|h)
    ·exact .inl (.inl h)
    ·exact .inr h
    ·exact .inl (.inr h)
theorem xua (l acc:List En) (h:SU (acc.map prE)):SU ((l.foldl xqG acc).map prE)∧(∀ q,q ∈ (l.foldl xqG acc).map prE↔q ∈ acc.map prE∨q ∈ l.map prE)∧(l.foldl xqG acc).length≤acc.length+l.length:=by
 induction l generalizing acc with
 | nil=>exact⟨h,fun q=>by simp,by simp⟩
 | cons e l ih =>
  obtain⟨h1,h2,h3⟩:=xwC e h
  obtain⟨i1,i2,i3⟩:=ih (xqG acc e) h1
  refine⟨i1,fun q=>?_,by rw[List.foldl_cons,List.length_cons];omega⟩
  rw[List.foldl_cons,i2,h2,List.map_cons,List.mem_cons]
  constructor
  ·rintro((h|h)|h)
   ·exact .inl h
   ·exact .inr (.inl h)
   ·exact .inr (.inr h)
  ·rintro(h|h|h)
   ·exact .inl (.inl h)
   ·exact .inl (.inr h)
   ·exact .inr h
theorem xf2 (l:List En):SU ((xje l).map prE)∧(∀ q,q ∈ (xje l).map prE↔q ∈ l.map prE)∧(xje l).length≤l.length:=by
 obtain⟨h1,h2,h3⟩:=xua l [] (by exact List.Pairwise.nil)
 exact⟨h1,fun q=>by rw[show xje l=l.foldl xqG [] from rfl,h2];simp,by have:(l.foldl xqG []).length≤l.length:=(by simpa using h3);exact this⟩
theorem xBr {a b:List (Int × Int)} (ha:SU a) (hb:SU b) (h:∀ q,q ∈ a↔q ∈ b):a=b:=by
 have nd:∀ {l:List (Int × Int)},SU l→l.Nodup:=fun hl=>hl.imp (fun {x y} hxy e=>by subst e;have:=xry hxy;rw[hxy] at this;cases this)
 exact List.Perm.eq_of_pairwise (le:=fun x y=>ltP x y=true) (fun x y _ _ h1 h2=>by have:=xry h1;rw[h2] at this;cases this) ha hb ((List.perm_ext_iff_of_nodup (nd ha) (nd hb)).2 h)
theorem xxb (S:Nat→Prop) (J:Js) (x:Value) (w:World) (h:xas S w J x):∃ v,∀ W,(Instr.typeAssert x 20 136 true).run Tryz.prog W=.ok (.tuple #[v,.bool (xu3 J)]) W:=by
 cases J <;> rw[xas] at h
 ·subst h;exact⟨_,fun W=>xpA _ _ _ _ Tryz.underlying136 rfl xAv W⟩
 ·subst h;exact⟨_,fun W=>xcU _ _ _ _ _ _ Tryz.underlying136 rfl xAv (by decide) W⟩
 ·subst h;exact⟨_,fun W=>xcU _ _ _ _ _ _ Tryz.underlying136 rfl xAv (by decide) W⟩
 ·obtain⟨t,rfl,_⟩:=h;exact⟨_,fun W=>xcU _ _ _ _ _ _ Tryz.underlying136 rfl xAv (by decide) W⟩
 ·obtain⟨a,c,rfl,_⟩:=h;exact⟨_,fun W=>xcU _ _ _ _ _ _ Tryz.underlying136 rfl xAv (by decide) W⟩
 ·obtain⟨a,c,rfl,_⟩:=h;exact⟨_,fun W=>xhM _ _ _ _ Tryz.underlying136 rfl W⟩
 ·subst h;exact⟨_,fun W=>xcU _ _ _ _ _ _ Tryz.underlying136 rfl xAv (by decide) W⟩
def xcM (b k:Int) (s:ByteArray):Array Value:=#[.int .i64 b,.int .u8 k,.string s]
theorem xk6 (b k:Int) (s:ByteArray) (w:World) (hq:QTab w) (hs:s.size≤1000000):Calls Tryz.prog 28 #[.agg (xcM b k s)] w fun e w'=>e=.returned (.int .i64 (ckP b k s))∧Below w.heap.size w w':=by
 unfold xcM ckP
 have HT:=lH (fun W hq=>xjI s W hq hs)
 have HQ:=lH (fun W (hb:Below w.heap.size w W)=>hq.below hb)
 obtain⟨V,hV⟩:∃ V,xd5 (bI s)=V:=⟨_,rfl⟩
 rw[hV] at HT ⊢
 unfold xwb at HT
 clear hq hV
 by_cases h1:b<512
 ·rw[if_pos (.inl h1)]
  have e1:decide (b<512)=true:=decide_eq_true h1
  clear h1
  go_enter Tryz.func28,Tryz.ntmps28
  go_wp2_with fail
  go_ret
  exact⟨rfl,by go_grown⟩
 have e1:decide (b<512)=false:=decide_eq_false h1
 by_cases h2:16257<b
 ·rw[if_pos (.inr h2)]
  have e2:decide (16257<b)=true:=decide_eq_true h2
  clear h1 h2
  go_enter Tryz.func28,Tryz.ntmps28
  go_wp2_with fail
  go_ret
  exact⟨rfl,by go_grown⟩
 have e2:decide (16257<b)=false:=decide_eq_false h2
 rw[if_neg (by omega)]
 by_cases h3:5<k
 ·rw[if_pos h3]
  have e3:decide (5<k)=true:=decide_eq_true h3
  clear h1 h2 h3
  go_enter Tryz.func28,Tryz.ntmps28
  go_wp2_with fail
  go_ret
  exact⟨rfl,by go_grown⟩
 have e3:decide (5<k)=false:=decide_eq_false h3
 rw[if_neg h3]
 obtain⟨R,hR⟩:∃ R,(if V.2.2≠0 then V.2.2 else if xu3 V.1=true then 0 else 4)=R:=⟨_,rfl⟩
 rw[hR]
 have HR:=lH hR
 clear h1 h2 h3 hR
 go_enter Tryz.func28,Tryz.ntmps28
 go_wp2_with fail
 have HB0:Hid (Below w.heap.size w (w.alloc (.cells #[.int .i64 b,.int .u8 k,.string s] 38))):=lH ((Below.refl _ _).alloc (Nat.le_refl _) _)
 refine(HT.out _ (HQ.out _ HB0.out)).mono ?_
 rintro e w1 ⟨⟨x,rfl,hx⟩,hb1⟩
 have HB:=lH (HB0.out.trans (hb1.mono HB0.out.size))
 obtain⟨v,hv⟩:=xxb _ _ _ _ hx
 clear hx hb1 HT HB0
 by_cases h4:V.2.2=0
 ·have e4:(V.2.2 == 0)=true:=by simp[h4]
  have HR1:=lH (HR.out.symm.trans (if_neg (by simpa using h4)))
  cases h5:xu3 V.1 with
  | true =>
   rw[h5] at hv
   have HR2:=lH (HR1.out.trans (if_pos h5))
   clear h4 h5
   generalize V.2.2=z at *
   go_wp2_with fail
   go_ret
   exact⟨by rw[HR2.out];rfl,HB.out⟩
  | false =>
   rw[h5] at hv
   have HR2:=lH (HR1.out.trans (if_neg (by simp[h5])))
   clear h4 h5
   generalize V.2.2=z at *
   go_wp2_with fail
   go_ret
   exact⟨by rw[HR2.out];rfl,HB.out⟩
 ·have e4:(V.2.2 == 0)=false:=by simp[h4]
  have HR2:=lH (HR.out.symm.trans (if_pos (by simpa using h4)))
  clear h4
  generalize V.2.2=z at *
  go_wp2_with fail
  go_ret
  exact⟨by rw[HR2.out];rfl,HB.out⟩
end Go.Proofs.YtjkgkmmkehnggaaGreatDoor
namespace Go.Proofs.YtjkgkmmkehnggaaGreatDoor
set_option linter.unusedVariables false
set_option linter.unusedSimpArgs false
open Go.RowKit
set_option maxRecDepth 100000
theorem xoX (s v:Value) (L:List It) (k:Int) (w:World) (h:ChS w s L) (hv:xam w v (xad L).1) :
  Calls Tryz.prog 33 #[.agg #[s],.int .u8 k,v] w fun e w'=>e=.returned (.agg (cH (hdP L k)))∧Below w.heap.size w w':=by
 have hg:=h.good
 have hfew:=hg.few
 have hrl:=xdL hg
 have hcl:=xxo (xad L).1
 have hw1:IntKind.u64.wrap (L.length:Int)=(L.length:Int):=by rw[IntKind.wrap_u64] <;> omega
 have hw2:IntKind.u64.wrap ((xad L).1.length:Int)=((xad L).1.length:Int):=by rw[IntKind.wrap_u64] <;> omega
 have hw3:IntKind.u64.wrap (conN (xad L).1:Int)=(conN (xad L).1:Int):=by rw[IntKind.wrap_u64] <;> omega
 obtain⟨a5,n5,c5,rfl⟩:=h.form
 have HV:=lH hv
 obtain⟨ar,cr,rfl,hcr,hmr,_⟩:=hv
 obtain⟨W,hW⟩:∃ W,(w.alloc (.cells #[.slice a5 n5 c5] 32)).alloc (.cells (cH xae) 93)=W:=⟨_,rfl⟩
 have h0:One W w.heap.size (.slice a5 n5 c5):=by
  rw[← hW]
  exact(xbb w _ _).alloc _
 have h2:HAt W (w.heap.size+1) 93 xae:=by
  have:=HAt.made (w.alloc (.cells #[.slice a5 n5 c5] 32)) xae 93
  simp only[World.size_alloc] at this
  rw[← hW]
  exact this
 have hbw:Below w.heap.size w W:=by rw[← hW];exact((Below.refl _ w).alloc (Nat.le_refl _) _).alloc (by simp) _
 have HM:=lH (xcw hg)
 have HZ:=lH (xqR (.slice a5 n5 c5) L W (h.below hbw))
 have HL:=lH (fun X (hX:Below W.heap.size W X)=>xuj (.slice a5 n5 c5) L X ((h.below hbw).below hX))
 have HC:=lH (fun X (hX:Below W.heap.size W X)=>xqq _ (xad L).1 X ((HV.out.below hbw).below hX) HM.out (by omega))
 have H0:=lH h0
 have H2:=lH h2
 have HB:=lH hbw
 have q0:=h0.cell
 have hz:cH xae=#[.int .u64 0,.int .u64 0,.int .u64 0,.int .u64 0,.int .u64 0,.int .u64 0,.int .u64 0,.int .u64 0,.int .u64 0,.int .u64 0,.int .u64 0,.bool false,.int .u8 0,.int .u8 0,.int .u8 0,.int .i64 0,.int .i64 0,.int .i64 0,.int .i64 0,.int .i64 0,.int .i64 0,.int .i64 0,.int .i64 0,.int .i64 0]:=rfl
 rw[hz] at hW
 have hR:cH (hdP L k)=#[.int .u64 0,.int .u64 0,.int .u64 0,.int .u64 0,.int .u64 0,.int .u64 0,.int .u64 0,.int .u64 0,.int .u64 L.length,.int .u64 (xad L).1.length,.int .u64 (conN (xad L).1:Nat),.bool true,.int .u8 1,.int .u8 1,.int .u8 k,.int .i64 (zlo L),.int .i64 (zhi L),.int .i64 (-1800000000),.int .i64 (-850511287),.int .i64 1800000000,.int .i64 850511287,.int .i64 (zlo L),.int .i64 0,.int .i64 0]:=rfl
 generalize hX:hdP L k=X at *
 have HR:=lH hR
 clear h hg h0 h2 hbw hz hcl hX hR
 generalize (xad L).1=R at *
 generalize zlo L=zl at *
 generalize zhi L=zh at *
 generalize conN R=cn at *
 go_enter Tryz.func33,Tryz.ntmps33
 go_wp2_with fail
 try rw[hW]
 clear hW
 refine HZ.out.mono ?_
 rintro e w1 ⟨rfl,hb1⟩
 have HB1:=lH hb1
 have q1:=(H0.out.below hb1).cell
 clear hb1 q0 HZ
 go_wp2_with fail
 refine(HL.out _ HB1.out).mono ?_
 rintro e w2 ⟨rfl,hb2⟩
 have HB2:=lH (HB1.out.trans (hb2.mono HB1.out.size))
 clear hb2 q1 HB1 HL
 go_wp2_with fail
 refine(HC.out _ HB2.out).mono ?_
 rintro e w3 ⟨rfl,hb3⟩
 have HB3:=lH (HB2.out.trans (hb3.mono HB2.out.size))
 have HH:=lH (H2.out.later HB3.out)
 have HBX:=lH (HB.out.trans (HB3.out.mono HB.out.size))
 clear hb3 HB2 HC
 go_wp2_with (first|(refine wpList_store_row rfl 93 _ _ rfl (w.heap.size+1) _ rfl rfl 93 (cH xae) HH.out xaP rfl (by have:=xhw X;rw[HR.out] at this;exact this) ?_)|fail)
 have hp:=xww w3 (w.heap.size+1) _ xae X HH.out
 rw[← HR.out]
 refine bodyPost_ret (results_cell_row rfl _ _ (w.heap.size+1) 93 (cH X) (0,0) _ rfl hp.1 Tryz.underlying93 rfl xaP) rfl ⟨rfl,hp.2.2.1 _ _ (by omega) HBX.out⟩
theorem xl9 (gb ge:Nat) (x y:Int) (u:FrameMode) (w:World) (hb:One w gb (.int .i64 x)) (he:One w ge (.int .i64 y)) :
  CallsD Tryz.prog 27 #[.pointer (some ⟨gb,0,none⟩),.pointer (some ⟨ge,0,none⟩)] u w fun e u' w'=>u'=u∧(e=.returned (.tuple #[])∧w'=w.setCell ⟨ge,0,none⟩ (.int .i64 x)):=by
 have h1:=hb.cell
 have h2:=he.cell
 have h3:=he.frz
 go_enter_d Tryz.func27,Tryz.ntmps27
 go_wp2
 go_end0
 exact⟨rfl,rfl⟩
theorem Box.set_other {w:World} {g g':Nat} {x:Array Value} (h:Box w g x) (hn:g≠g') (x':Value):Box (w.setCell ⟨g',0,none⟩ x') g x:=by
 obtain⟨T,h⟩:=h
 exact⟨T,xen h hn _ _⟩
theorem xam.set18 {w:World} {v:Value} {l:List En} (h:xam w v l) {g:Nat} {x:Value} (ho:One w g x) (x':Value):xam (w.setCell ⟨g,0,none⟩ x') v l:=by
 obtain⟨T,hh⟩:=ho
 obtain⟨a,cap,rfl,h1,h2,hc⟩:=h
 refine⟨a,cap,rfl,h1,h2,fun k t ht=>?_⟩
 obtain⟨g',off,ha,hg,c0,c1,c2,c3⟩:=hc k t ht
 have hn:g'≠g:=by
  rintro rfl
  simp[World.cell?,hh] at c3
 have hb:(w.setCell ⟨g,0,none⟩ x').heap[g']?=w.heap[g']?:=Below.heap_setCell _ _ _ _ (by simpa using hn)
 exact⟨g',off,ha,by simpa using hg,(World.cell?_of_block (a:=⟨g',_,none⟩) hb).trans c0,(World.cell?_of_block (a:=⟨g',_,none⟩) hb).trans c1,(World.cell?_of_block (a:=⟨g',_,none⟩) hb).trans c2,(World.cell?_of_block (a:=⟨g',_,none⟩) hb).trans c3⟩
theorem xrz:(Tryz.prog.info? 38).map (·.size)=some 3:=by kernel_rfl
structure StP (w W:World) (g0 g1 g2 g3:Nat) (s:Value) (L:List It) (b k:Int) (t:ByteArray) (z:Int):Prop where
 ord:w.heap.size≤g2∧w.heap.size≤g3∧g0≠g3∧g1≠g3∧g2≠g3
 ch:One W g0 s
 pl:Box W g1 (xcM b k t)
 e:One W g2 (.int .i64 0)
 bad:One W g3 (.int .i64 z)
 its:ChS W s L
 bel:Below w.heap.size w W
theorem StP.below {w W X:World} {g0 g1 g2 g3:Nat} {s:Value} {L:List It} {b k:Int} {t:ByteArray} {z:Int} (h:StP w W g0 g1 g2 g3 s L b k t z) (hb:Below W.heap.size W X):StP w X g0 g1 g2 g3 s L b k t z :=
 ⟨h.ord,h.ch.below hb,h.pl.below hb,h.e.below hb,h.bad.below hb,h.its.below hb,h.bel.trans (hb.mono h.bel.size)⟩
theorem StP.tell {w W:World} {g0 g1 g2 g3:Nat} {s:Value} {L:List It} {b k:Int} {t:ByteArray} {z:Int} (h:StP w W g0 g1 g2 g3 s L b k t z) (y:Int):StP w (W.setCell ⟨g3,0,none⟩ (.int .i64 y)) g0 g1 g2 g3 s L b k t y :=
 ⟨h.ord,h.ch.set_other h.ord.2.2.1 _,h.pl.set_other h.ord.2.2.2.1 _,h.e.set_other h.ord.2.2.2.2 _,h.bad.set _,h.its.set h.bad _,h.bel.setCell (p:=⟨g3,0,none⟩) h.ord.2.1 _⟩
theorem StP.facts {w W:World} {g0 g1 g2 g3:Nat} {s:Value} {L:List It} {b k:Int} {t:ByteArray} {z:Int} (h:StP w W g0 g1 g2 g3 s L b k t z) :
  W.cell? ⟨g0,0,none⟩=some s∧W.cell? ⟨g1,0,none⟩=some (.int .i64 b)∧W.cell? ⟨g1,1,none⟩=some (.int .u8 k)∧W.cell? ⟨g1,2,none⟩=some (.string t) ∧
  W.cell? ⟨g3,0,none⟩=some (.int .i64 z)∧W.frozen? ⟨g3,0,none⟩=false∧(loadVar 38 ⟨g1,0,none⟩).run Tryz.prog W=.ok (.agg (xcM b k t)) W:=by
 refine⟨h.ch.cell,by rw[h.pl.cell];rfl,by rw[h.pl.cell];rfl,by rw[h.pl.cell];rfl,h.bad.cell,h.bad.frz,?_⟩
 obtain⟨T,hT⟩:=h.pl
 exact run_loadVar_row W g1 T _ _ (0,0) _ hT Tryz.underlying38 rfl xrz
theorem StP.shut {w W:World} {g0 g1 g2 g3:Nat} {s:Value} {L:List It} {b k:Int} {t:ByteArray} {z:Int} (h:StP w W g0 g1 g2 g3 s L b k t z) :
  (W.setCell ⟨g2,0,none⟩ (.int .i64 z)).cell? ⟨g2,0,none⟩=some (.int .i64 z)∧Below w.heap.size w (W.setCell ⟨g2,0,none⟩ (.int .i64 z)) :=
 ⟨(h.e.set _).cell,h.bel.setCell (p:=⟨g2,0,none⟩) h.ord.1 _⟩
theorem xg8 (s:Value) (L:List It) (b k:Int) (t:ByteArray) (w:World) (hq:QTab w) (h:ChS w s L) (hl:L.length≤150) (hk:U8 k) (hb:-9223372036854775808≤b∧b≤9223372036854775807) (ht:t.size≤1000000) :
  Calls Tryz.prog 12 #[.agg #[s],.agg (xcM b k t)] w fun e w'=>e=.returned (.tuple #[.string (xcr L b k t).1,.int .i64 (xcr L b k t).2])∧Below w.heap.size w w':=by
 have hmf:∀ (fn:Fn) (first cap:Array Value) (w:World),(Instr.makeFunc fn first cap).run Tryz.prog w=.ok (.func fn first cap) w:=fun _ _ _ _=>rfl
 have hg:=h.good
 have hrl:=xdL hg
 have HQ:=lH (fun W (hb:Below w.heap.size w W)=>hq.below hb)
 have HCK:=lH (fun W hq=>xk6 b k t W hq ht)
 obtain⟨a5,n5,c5,rfl⟩:=h.form
 obtain⟨W,hW⟩:∃ W,(((w.alloc (.cells #[.slice a5 n5 c5] 32)).alloc (.cells (xcM b k t) 38)).alloc (.cells #[.int .i64 0] 35)).alloc (.cells #[.int .i64 0] 35)=W:=⟨_,rfl⟩
 have hS:StP w W w.heap.size (w.heap.size+1) (w.heap.size+1+1) (w.heap.size+1+1+1) (.slice a5 n5 c5) L b k t 0:=by
  have b1:=(Below.refl w.heap.size w).alloc (Nat.le_refl _) (.cells #[.slice a5 n5 c5] 32)
  have o1:=xbb w (.slice a5 n5 c5) 32
  generalize hW1:w.alloc (.cells #[.slice a5 n5 c5] 32)=W1 at *
  have z1:W1.heap.size=w.heap.size+1:=by rw[← hW1,World.size_alloc]
  have b2:=(Below.refl W1.heap.size W1).alloc (Nat.le_refl _) (.cells (xcM b k t) 38)
  have o2:=xiB W1 (xcM b k t) 38
  generalize hW2:W1.alloc (.cells (xcM b k t) 38)=W2 at *
  have z2:W2.heap.size=w.heap.size+1+1:=by rw[← hW2,World.size_alloc,z1]
  have b3:=(Below.refl W2.heap.size W2).alloc (Nat.le_refl _) (.cells #[.int .i64 0] 35)
  have o3:=xbb W2 (.int .i64 0) 35
  generalize hW3:W2.alloc (.cells #[.int .i64 0] 35)=W3 at *
  have z3:W3.heap.size=w.heap.size+1+1+1:=by rw[← hW3,World.size_alloc,z2]
  have b4:=(Below.refl W3.heap.size W3).alloc (Nat.le_refl _) (.cells #[.int .i64 0] 35)
  have o4:=xbb W3 (.int .i64 0) 35
  rw[hW] at b4 o4
  rw[z1] at o2
  rw[z2] at o3
  rw[z3] at o4
  have c1:=b1.trans ((b2.mono b1.size).trans (((b3.mono b2.size).trans (b4.mono (Nat.le_trans b2.size b3.size))).mono b1.size))
  exact⟨⟨by omega,by omega,by omega,by omega,by omega⟩,((o1.below b2).below b3).below b4,(o2.below b3).below b4,o3.below b4,o4,h.below c1,c1⟩
 unfold xcM at hW ⊢
 generalize hP:xcr L b k t=P
 have HP:=lH hP
 have HS:=lH hS
 have H0:=lH h
 clear hq hS h hP
 go_enter_defers Tryz.func12,Tryz.ntmps12
 go_upto_region 3 with fail
 generalize w.heap.size+1+1+1=g3 at *
 generalize w.heap.size+1+1=g2 at *
 generalize w.heap.size+1=g1 at *
 obtain⟨q0,p0,p1,p2,b0,bf,lp⟩:=HS.out.facts
 unfold xcM at lp HCK
 obtain⟨cz,hcz⟩:∃ z,ckP b k t=z:=⟨_,rfl⟩
 rw[hcz] at HCK
 have HCZ:=lH hcz
 clear hcz hW
 go_wp2_with fail
 refine(HCK.out _ (HQ.out _ HS.out.bel)).mono ?_
 rintro e w1 ⟨rfl,hb1⟩
 have HS1:=lH (HS.out.below hb1)
 obtain⟨_,_,_,_,b1,bf1,_⟩:=HS1.out.facts
 clear HS hb1 q0 p0 p1 p2 b0 bf lp HCK
 by_cases h1:cz=0
 ·subst h1
  have HS2:=lH (HS1.out.tell 0)
  go_upto_region 5 with fail
  generalize w1.setCell { block:=g3,off:=0 } (Value.int IntKind.i64 0)=w2 at *
  obtain⟨q0,_⟩:=HS2.out.facts
  clear HS1 b1 bf1
  go_wp2_with fail
  refine(xpD _ L _ HS2.out.its).mono ?_
  rintro e w3 ⟨v3,rfl,hr3,hb3⟩
  have HS3:=lH (HS2.out.below hb3)
  obtain⟨_,p0,_⟩:=HS3.out.facts
  have HR3:=lH hr3
  obtain⟨ar,cr,rfl,hcr,hmr,_⟩:=hr3
  have HSP:=lH (xlD _ (xad L).1 b _ HR3.out (xcw hg) (by omega) hb)
  clear HS2 hb3 q0
  unfold xr2 at HSP
  go_wp2_with fail
  refine HSP.out.mono ?_
  rintro e w4 ⟨v4,rfl,hr4,hb4⟩
  have HS4:=lH (HS3.out.below hb4)
  have HR4:=lH (And.intro (HR3.out.below hb4) hr4)
  obtain⟨_,_,_,_,b4,bf4,_⟩:=HS4.out.facts
  clear HS3 hb4 p0 HSP hr4 HR3
  obtain⟨ez,hez⟩:∃ z,(xaq (xad L).1 b).err=z:=⟨_,rfl⟩
  have HEZ:=lH hez
  rw[hez]
  clear hez
  by_cases h2:ez=0
  ·subst h2
   have he:=HEZ.out
   have hbb:b≤16257:=(xex he).2.1
   have SP:=xsf (xcw hg) (by omega) he
   have HFW:=lH (xsB (s:=t) hg hl ht he hbb)
   have HS5:=lH (HS4.out.tell 0)
   have HR5:=lH (And.intro (HR4.out.1.set18 HS4.out.bad (.int .i64 0)) (HR4.out.2.set18 HS4.out.bad (.int .i64 0)))
   have HEN:=lH (fun X hX=>xki v4 (xaq (xad L).1 b).root X hX SP.may (by have:=SP.len;omega))
   have HHD:=lH (fun X (h1:ChS X (.slice a5 n5 c5) L) h2=>xoX (.slice a5 n5 c5) (.slice ar (xad L).1.length cr) L k X h1 h2)
   have HGL:=lH (fun X=>xoN (hdP L k) (ptP L b t) X (xna hg hk) HFW.out)
   have HPE0:Hid (P=xbB (hdP L k) (ptP L b t)):=lH (by rw[← HP.out];unfold xcr;rw[HCZ.out,if_neg (by simp),he,if_neg (by simp)])
   generalize xbB (hdP L k) (ptP L b t)=G at *
   obtain⟨y,z⟩:=G
   have HPE:Hid (P=(y,z)):=HPE0
   unfold xB9 ptP at HGL
   dsimp only at HGL
   generalize cH (hdP L k)=Hc at *
   clear SP he HPE0
   go_upto_region 8 with fail
   generalize w4.setCell { block:=g3,off:=0 } (Value.int IntKind.i64 0)=w5 at *
   clear HS4 HR4 b4 bf4
   go_wp2_with fail
   refine(HEN.out _ HR5.out.2).mono ?_
   rintro e w6 ⟨rfl,hb6⟩
   have HS6:=lH (HS5.out.below hb6)
   have HR6:=lH (HR5.out.1.below hb6)
   obtain⟨q0,p0,p1,p2,b0,bf,_⟩:=HS6.out.facts
   clear HS5 HR5 hb6 HEN
   go_upto_region 9 with fail
   go_cut [4] from 40 to 54 (fun x wx=>x=.string y∧StP w wx w.heap.size g1 g2 g3 (.slice a5 n5 c5) L b k t z)
   case first =>
    refine wp_mono (Q:=xdT _) ?_ xgn
    go_region_with (first|(go_at_call 33;refine(HHD.out _ (HS6.out.its.below (by go_grown)) (HR6.out.below (by go_grown))).mono ?_;rintro e wa ⟨rfl,hba⟩;have hbA:Below w6.heap.size w6 wa:=Below.trans (by go_grown) (hba.mono (by simp));obtain⟨_,_,r1,r2,rb,rf,_⟩:=(HS6.out.below hbA).facts)|(go_at_call 32;refine(HGL.out _).mono ?_;rintro e wb ⟨rfl,hbb⟩;have hbB:Below w6.heap.size w6 wb:=hbA.trans (hbb.mono hbA.size);obtain⟨_,_,_,_,sb,sf,_⟩:=(HS6.out.below hbB).facts))
    all_goals
     dsimp only[xdT]
     go_wp2_with fail
     go_meet
     case rel=>exact⟨rfl,(HS6.out.below hbB).tell z⟩
   case rest =>
    obtain⟨rfl,hS9⟩:=hcut
    generalize wc=w9 at *
    have HS9:=lH hS9
    clear hS9
    go_wp2_with fail
    refine leaves_cons (f:=27) (args:=#[.pointer (some ⟨g3,0,none⟩),.pointer (some ⟨g2,0,none⟩)]) (by simp) (by simp[go_sem]) ?_
    refine(xl9 g3 g2 z 0 .returning _ HS9.out.bad HS9.out.e).mono ?_
    rintro e u' w'' ⟨rfl,rfl,rfl⟩
    obtain⟨k1,k2⟩:=HS9.out.shut
    refine⟨.tuple #[.string y,.int .i64 z],?_,by rw[HPE.out],k2⟩
    clear k2
    generalize w9.setCell { block:=g2,off:=0 } (Value.int IntKind.i64 z)=W9 at *
    simp[results,Tryz.results12,go_sem,k1]
  ·have e2:(ez == 0)=false:=by simp[h2]
   have HS5:=lH (HS4.out.tell ez)
   have HPE:Hid (P=(noB,ez)):=lH (by rw[← HP.out];unfold xcr;rw[HCZ.out,if_neg (by simp),HEZ.out,if_pos h2])
   go_wp2_with fail
   refine leaves_cons (f:=27) (args:=#[.pointer (some ⟨g3,0,none⟩),.pointer (some ⟨g2,0,none⟩)]) (by simp) (by simp[go_sem]) ?_
   refine(xl9 g3 g2 ez 0 .returning _ HS5.out.bad HS5.out.e).mono ?_
   rintro e u' w'' ⟨rfl,rfl,rfl⟩
   obtain⟨k1,k2⟩:=HS5.out.shut
   refine⟨.tuple #[.string noB,.int .i64 ez],?_,by rw[HPE.out],k2⟩
   clear k2
   generalize (w4.setCell { block:=g3,off:=0 } (Value.int IntKind.i64 ez)).setCell { block:=g2,off:=0 } (Value.int IntKind.i64 ez)=W9 at *
   simp[results,Tryz.results12,go_sem,k1,noB]
 ·have e1:(cz == 0)=false:=by simp[h1]
  have HS2:=lH (HS1.out.tell cz)
  have HPE:Hid (P=(noB,cz)):=lH (by rw[← HP.out];unfold xcr;rw[HCZ.out,if_pos h1])
  go_wp2_with fail
  refine leaves_cons (f:=27) (args:=#[.pointer (some ⟨g3,0,none⟩),.pointer (some ⟨g2,0,none⟩)]) (by simp) (by simp[go_sem]) ?_
  refine(xl9 g3 g2 cz 0 .returning _ HS2.out.bad HS2.out.e).mono ?_
  rintro e u' w'' ⟨rfl,rfl,rfl⟩
  obtain⟨k1,k2⟩:=HS2.out.shut
  refine⟨.tuple #[.string noB,.int .i64 cz],?_,by rw[HPE.out],k2⟩
  clear k2
  generalize (w1.setCell { block:=g3,off:=0 } (Value.int IntKind.i64 cz)).setCell { block:=g2,off:=0 } (Value.int IntKind.i64 cz)=W9 at *
  simp[results,Tryz.results12,go_sem,k1,noB]
def xT:ByteArray:={ data:=#[120] }
def xL:List It:=[(0,xT)]
def obT:ByteArray:={ data:=#[123,125] }
def arT:ByteArray:={ data:=#[80,77,84,105,108,101,115,3,127,0,0,0,0,0,0,0,5,0,0,0,0,0,0,0,132,0,0,0,0,0,0,0,2,0,0,0,0,0,0,0,134,0,0,0,0,0,0,0,0,0,0,0,0,0,0,0,134,0,0,0,0,0,0,0,1,0,0,0,0,0,0,0,1,0,0,0,0,0,0,0,1,0,0,0,0,0,0,0,1,0,0,0,0,0,0,0,1,1,1,0,0,0,0,46,182,148,73,58,78,205,0,210,73,107,183,197,177,50,0,0,0,0,0,0,0,0,0,1,0,1,1,1,123,125,120] }
theorem xDh:ofI xL=(xL,0):=by rfl
theorem xy4:xcr xL 512 0 obT=(arT,0):=by kernel_rfl
theorem xxP (w:World) (x:Nat) (s:ByteArray) (T:TypeId):ItsAt (w.alloc (.cells #[.int .u64 x,.string s] T)) (.slice (some ⟨w.heap.size,0,none⟩) 1 1) [(x,s)]:=by
 refine⟨_,1,rfl,Nat.le_refl _,by unfold maxLen;omega,fun k u hu=>⟨w.heap.size,0,rfl,by simp,?_⟩⟩
 match k,hu with
 | 0,hu=>simp only[List.getElem?_cons_zero,Option.some.injEq] at hu;subst hu;exact⟨by simp[go_sem],by simp[go_sem]⟩
 | k+1,hu=>simp at hu
theorem xCo (v:Value) (w:World) (hv:ItsAt w v xL):Calls Tryz.prog 13 #[v] w fun e w'=>∃ s',e=.returned (.tuple #[.agg #[s'],.int .i64 0])∧ChS w' s' xL∧Below w.heap.size w w':=by
 refine(xzt v _ w hv (by decide) (fun t ht=>?_) (fun t ht=>?_)).mono ?_
 ·simp[xL] at ht;subst ht;decide
 ·simp[xL] at ht;unfold maxLen;subst ht;decide
 rintro e w' ⟨s',rfl,h,hb⟩
 rw[xDh] at h
 exact⟨s',by rw[xDh];rfl,h,hb⟩
theorem xuZ (s:Value) (w:World) (hq:QTab w) (h:ChS w s xL):Calls Tryz.prog 12 #[.agg #[s],.agg #[.int .i64 512,.int .u8 0,.string { data:=#[123,125] }]] w fun e w'=>e=.returned (.tuple #[.string arT,.int .i64 0])∧Below w.heap.size w w':=by
 have:=xg8 s xL 512 0 obT w hq h (by decide) (by unfold U8;omega) (by omega) (by decide)
 rw[xy4] at this
 exact this
theorem xiD:arT.size=135:=by kernel_rfl
theorem xtk:∀ (l acc:List It),(xoU acc l).length≤acc.length+l.length
 | [],acc=>by rw[xoU];simp
 | t :: l,acc=>by
  rw[xoU]
  have h1:=xtk l (xdi acc t.1 t.2)
  have h2:(xdi acc t.1 t.2).length≤acc.length+1:=by
   unfold xdi
   split
   ·rw[xsG];have:=xe1 t.1 acc;omega
   ·omega
  rw[List.length_cons]
  omega
theorem xuA {l:List It} {m M:Int} (h:xj4 l m M=false):xar l≤M∧(l.length:Int)≤m:=by
 unfold xj4 at h
 rw[Bool.or_eq_false_iff,decide_eq_false_iff_not,decide_eq_false_iff_not] at h
 omega
end Go.Proofs.YtjkgkmmkehnggaaGreatDoor
namespace Go.Proofs.YtjkgkmmkehnggaaGreatDoor
set_option linter.unusedVariables false
set_option linter.unusedSimpArgs false
open Go.RowKit
set_option maxRecDepth 20000
theorem xjD:∀ (l acc:List It),xar (xoU acc l)≤xar acc+xar l
 | [],acc=>by rw[xoU];simp[xar]
 | t :: l,acc=>by
  rw[xoU]
  have h1:=xjD l (xdi acc t.1 t.2)
  have h2:xar (xdi acc t.1 t.2)≤xar acc+t.2.size:=by
   unfold xdi
   split
   ·rw[xtx];have:=xph t.1 acc;omega
   ·omega
  rw[xar]
  omega
theorem xwR (x:ByteArray):x++ByteArray.empty=x:=ByteArray.append_empty
theorem xkZ {L:List It} {b k:Int} {s:ByteArray} (hg:GoodC L) (hl:L.length≤150) (hk:U8 k) (hs:s.size≤1000000) (hc:ckP b k s=0) :
  ∃ y,xcr L b k s=(y,0)∧xgA y=⟨xe0 (hdP L k) (ptP L b s),ptP L b s,0⟩∧y.size=127+xyg (ptP L b s)∧Few (ptP L b s) 200000000:=by
 obtain⟨h1,h2,h3⟩:=xnI hg hl hk hs hc
 have hb:b≤16257:=(xex h1).2.1
 have hf:=xsB (s:=s) hg hl hs h1 hb
 have h4:=xeI (xna hg hk) hf h2
 have h5:=xu5 (xna hg hk) hf h2 ByteArray.empty
 rw[xwR] at h5
 rw[h3]
 generalize hG:xbB (hdP L k) (ptP L b s)=G at *
 obtain⟨y,z⟩:=G
 simp only at h2 h4 h5
 subst h2
 exact⟨y,rfl,h5,h4,hf⟩
structure WholeP (L:List It) (b k:Int) (s y:ByteArray) (X:Hd) (p:Pt):Prop where
 cut:xgA y=⟨X,p,0⟩
 sz:y.size≤1000000
 dec:∃ n,xco p.p0.data.toList=((xaq (xad L).1 b).root,n,0)
 p0:(p.p0.size:Int)≤b
 p0m:p.p0.size≤16257
 may:xaT (xaq (xad L).1 b).root
 few:(xaq (xad L).1 b).root.length≤150
 join:xpd (xaq (xad L).1 b).root p.p2=((xad L).1,0)
 p2:p.p2.size≤1000000
 back:xyb (xad L).1 p.p3=(L,0)
 p3:p.p3.size≤200000000
 p1:p.p1=s
 hm:xeR X
 laid:xfW X (y.size:Nat)=0
 ad:X.ad=(L.length:Nat)
 en:X.en=((xad L).1.length:Nat)
 fin:X.df+X.dl=(y.size:Nat)
 df:0≤X.df∧0≤X.dl
 rf:X.rf=127
 rl:X.rl=(p.p0.size:Nat)
 inn:X.inn=1
 out:X.out=1
 cl:X.cl=true
theorem xuo {L:List It} {b k:Int} {s:ByteArray} (hg:GoodC L) (hl:L.length≤150) (hk:U8 k) (hs:s.size≤1000) (ht:totF (xad L).2≤100000) (hc:ckP b k s=0):∃ y X p,xcr L b k s=(y,0)∧WholeP L b k s y X p:=by
 obtain⟨y,h1,h2,h3,h4⟩:=xkZ hg hl hk (show s.size≤1000000 by omega) hc
 obtain⟨h5,h6,h7⟩:=xnI hg hl hk (show s.size≤1000000 by omega) hc
 have hb:=(xex h5).2.1
 have hrl:=xdL hg
 have S:=xsf (xcw hg) (by omega) h5
 have s1:=S.fit
 have s2:=S.text
 have s3:=S.len
 obtain⟨e1,e2⟩:=xxg S.row (by omega)
 have e0:(ptP L b s).p0=str (xau (xaq (xad L).1 b).root):=e2
 have z0:(ptP L b s).p0.size=(xau (xaq (xad L).1 b).root).length:=by rw[e0,xbv]
 have z2:(ptP L b s).p2.size≤50*L.length:=by show (xaq (xad L).1 b).text.size≤_;omega
 have z3:(ptP L b s).p3.size=totF (xad L).2:=xdB _
 have z1:(ptP L b s).p1.size=s.size:=rfl
 have hd:=xg3 (h:=hdP L k) h4
 have hm:=xna hg hk
 have hy:(xbB (hdP L k) (ptP L b s)).1=y:=by rw[← h7,h1]
 refine⟨y,xe0 (hdP L k) (ptP L b s),ptP L b s,h1,⟨h2,?_,?_,by omega,by omega,S.may,by omega,?_,by omega,(xdF hg).1,by omega,rfl,xnR hm h4,?_,rfl,rfl,?_,?_,hd.1,hd.2.1,rfl,rfl,rfl⟩⟩
 ·rw[h3];unfold xyg;omega
 ·rw[e0,xjq]
  exact⟨_,xk1 _ S.may S.row (by rw[← xdq];omega)⟩
 ·exact xos (xcw hg) (by omega) h5
 ·have:=xtb hm h4 h6
  rw[hy] at this;exact this
 ·have:=xvf hm h4 h6
  rw[hy] at this;exact this
 ·omega
end Go.Proofs.YtjkgkmmkehnggaaGreatDoor
