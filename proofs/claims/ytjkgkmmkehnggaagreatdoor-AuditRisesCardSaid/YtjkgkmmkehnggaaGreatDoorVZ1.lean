/- Za Wa Wb Wc Wd Zb We Wf. -/
import Derived.Test.YtjkgkmmkehnggaaGreatDoorVc4
import Derived.Maps.OwnIn
import Derived.Lib.BufferOwn
import Derived.Test.YtjkgkmmkehnggaaGreatDoorVb6
import Derived.Test.YtjkgkmmkehnggaaGreatDoorVd5
import Derived.Test.YtjkgkmmkehnggaaGreatDoorVs
namespace Go.Proofs.YtjkgkmmkehnggaaGreatDoor
set_option linter.unusedVariables false
set_option linter.unusedSimpArgs false
open Go.RowKit
set_option maxRecDepth 20000
def isOb:Js→Bool
 | .obj _=>true
 | _=>false
def ckP (b k:Int) (s:ByteArray):Int :=
 if b<512∨16257<b then 15 else if 5<k then 14 else if (takeV (bI s)).2.2≠0 then (takeV (bI s)).2.2 else if isOb (takeV (bI s)).1=true then 0 else 4
def hdP (L:List It) (k:Int):Hd:=⟨0,0,0,0,0,0,0,0,(L.length:Nat),((rowsS L).1.length:Nat),(conN (rowsS L).1:Nat),true,1,1,k,zlo L,zhi L,-1800000000,-850511287,1800000000,850511287,zlo L,0,0⟩
def ptP (L:List It) (b:Int) (s:ByteArray):Pt:=⟨encT (splitN (rowsS L).1 b).root,s,(splitN (rowsS L).1 b).text,catF (rowsS L).2⟩
def pressN (L:List It) (b k:Int) (s:ByteArray):ByteArray × Int :=
 if ckP b k s≠0 then (noB,ckP b k s) else if (splitN (rowsS L).1 b).err≠0 then (noB,(splitN (rowsS L).1 b).err) else glueN (hdP L k) (ptP L b s)
theorem zof_in (t:It) (h:t.1<6004799503160661):0≤zofV (t.1:Int)∧zofV (t.1:Int)≤26:=by
 obtain⟨k,hk,_,_,e⟩:=zof_yes (t.1:Int) (by omega) (by omega)
 rw[e];omega
theorem zof_up {a b:Int} (h0:0≤a) (hab:a≤b) (hb:b<6004799503160661):zofV a≤zofV b:=by
 obtain⟨i,hi,a1,a2,ea⟩:=zof_yes a h0 (by omega)
 obtain⟨j,hj,b1,b2,eb⟩:=zof_yes b (by omega) hb
 rw[ea,eb]
 rcases Nat.lt_or_ge j i with h|h
 ·have:=bas_mono (j+1) i (by omega)
  rw[bas_succ] at this
  omega
 ·omega
theorem zlo_in {L:List It} (hg:GoodC L):0≤zlo L∧zlo L≤zhi L∧zhi L≤26:=by
 cases L with
 | nil=>exact⟨Int.le_refl _,Int.le_refl _,by decide⟩
 | cons t m =>
  obtain⟨u,hu⟩:∃ u,(t :: m).getLast?=some u:=⟨_,List.getLast?_eq_some_getLast (by simp)⟩
  have hm:u ∈ t :: m:=List.mem_of_getLast? hu
  have h1:=zof_in t (hg.low t (by simp))
  have h2:=zof_in u (hg.low u hm)
  have e:zhi (t :: m)=zofV (u.1:Int):=by unfold zhi;rw[hu]
  have e2:zlo (t :: m)=zofV (t.1:Int):=rfl
  rw[e,e2]
  refine⟨h1.1,zof_up (by omega) ?_ (by have:=hg.low u hm;omega),h2.2⟩
  rcases List.mem_cons.1 hm with rfl|hm'
  ·omega
  ·have:=(List.pairwise_cons.1 hg.rise).1 u hm';omega
theorem rows_may {L:List It} (hg:GoodC L):MaysN (rowsS L).1:=fun e he=>((rinv_all hg).ok e he).may
theorem rows_len {L:List It} (hg:GoodC L):(rowsS L).1.length≤L.length:=(back_whole hg).2.2.2.2.1
structure Spl (l:List En) (b:Int):Prop where
 may:MaysN (splitN l b).root
 row:rowN (splitN l b).root=0
 len:(splitN l b).root.length≤l.length
 fit:((textI (splitN l b).root).length:Int)≤b
 text:(splitN l b).text.size≤10*l.length+40*l.length
theorem spl_of {l:List En} {b:Int} (hm:MaysN l) (hl:l.length≤150) (he:(splitN l b).err=0):Spl l b:=by
 obtain⟨b0,b1,hr,hlv,h⟩:=split_ok he
 rcases h with ⟨h,e⟩|⟨h,n,hn,hf,e⟩
 ·rw[sizD,if_pos hr] at h
  exact⟨by rw[e];exact hm,by rw[e];exact hr,by rw[e];exact Nat.le_refl _,by rw[e];exact h,by rw[e];exact Nat.zero_le _⟩
 ·have hrow:=roots_rowN n hn hm hr (by omega)
  have hlen:(rootsN 0 (cutN n l)).length≤l.length:=by rw[rootsN_len];exact cut_len n hn l
  rw[fit_few n hn hl,decide_eq_true_eq,sizD,if_pos hrow] at hf
  have hb:=textsI_bd (cutN n l)
  have hc:=cut_len n hn l
  rw[cut_flat n hn l] at hb
  refine⟨?_,by rw[e];exact hrow,by rw[e];exact hlen,by rw[e];exact hf,by rw[e];show (str (textsI (cutN n l))).size≤_;rw[str_size];omega⟩
  rw[e]
  refine roots_may (by rw[cut_flat n hn l];exact hm) (fun p hp=>(cut_mem n hn l p hp).1) (fun p hp=>?_) (by omega)
  have h1:=(textI_bd p).2
  have h2:p.length≤l.length:=by
   have:=cut_flat n hn l
   obtain⟨x,y,hxy⟩:=List.append_of_mem hp
   rw[hxy,List.flatten_append,List.flatten_cons] at this
   have:=congrArg List.length this
   rw[List.length_append,List.length_append] at this
   omega
  omega
theorem enc_ok {l:List En} (hr:rowN l=0) (hs:(textI l).length≤65536):encB l=0∧encT l=str (textI l):=by
 have h:encB l=0:=by unfold encB;rw[if_pos hr,if_neg (by omega)]
 exact⟨h,by unfold encT;rw[if_pos h]⟩
theorem cat_le {L:List It} (hg:GoodC L):(catF (rowsS L).2).size≤134217728:=by
 have:=tot_le hg L.length (Nat.le_refl _)
 rw[List.take_length] at this
 rw[catF_size];exact this
theorem few_pt {L:List It} {b:Int} {s:ByteArray} (hg:GoodC L) (hl:L.length≤150) (hs:s.size≤1000000) (he:(splitN (rowsS L).1 b).err=0) (hb:b≤16257):Few (ptP L b s) 200000000:=by
 have hlen:=rows_len hg
 have S:=spl_of (rows_may hg) (by omega) he
 have h1:=S.fit
 have h2:=S.text
 have h3:=cat_le hg
 obtain⟨e1,e2⟩:=enc_ok S.row (by omega)
 refine⟨?_,by show s.size≤_;omega,by show (splitN (rowsS L).1 b).text.size≤_;omega,by show (catF (rowsS L).2).size≤_;omega⟩
 show (encT (splitN (rowsS L).1 b).root).size≤_
 rw[e2,str_size]
 omega
theorem con_le (l:List En):conN l≤l.length:=by
 unfold conN
 refine Nat.le_trans (unl_len _) ?_
 unfold pairN
 rw[List.length_map]
 exact List.length_filter_le _ _
theorem may_hd {L:List It} {k:Int} (hg:GoodC L) (hk:U8 k):MayH (hdP L k):=by
 have h1:=zlo_in hg
 have h2:=hg.few
 have h3:=rows_len hg
 have h4:=con_le (rowsS L).1
 unfold U8 at hk
 unfold MayH hdP U64 U8
 simp only
 omega
def txtA (s:ByteArray) (f l:Int):ByteArray:=s.extract (min f (s.size:Int)).toNat (min (f+l) (s.size:Int)).toNat
def tightA (h:Hd) (n:Int):Bool:=decide (h.rf=127) && (decide (h.mf=h.rf+h.rl) && (decide (h.lf=h.mf+h.ml) && (decide (h.df=h.lf+h.ll) && decide (h.df+h.dl=n))))
def bitE (e:En) (d:ByteArray):List UInt8:=(d.extract e.off.toNat (e.off+e.ln).toNat).data.toList
def leafA (e:En) (d:ByteArray):Option (List En) :=
 if (d.size:Int)<e.off+e.ln then none else if (decD (bitE e d)).2.2≠0 then none else
 if (decD (bitE e d)).1=[]∨(gS (decD (bitE e d)).1 0).id≠e.id then none else some (decD (bitE e d)).1
structure Asked where
 l:List En
 lf:Bool
 dp:Bool
def ptrA (l:List En):Bool:=l.any fun x=>decide (x.rn=0)
def askS (d:ByteArray) (a:Asked) (e:En):Asked :=
 if e.rn≠0 then ⟨a.l++[e],a.lf,a.dp⟩ else match leafA e d with
 | none=>⟨a.l,true,a.dp⟩
 | some k=>⟨a.l++k,a.lf,a.dp || ptrA k⟩
def askA (d:ByteArray) (l:List En):Asked:=l.foldl (askS d) ⟨[],false,false⟩
def rowT (l:List En):Nat→Bool
 | 0=>true
 | i+1=>rowT l i && (decide (i=0) || decide (laN (gS l (i - 1))<(gS l i).id))
def oneA (a b:En):Bool:=decide (b.id=laN a+1) && (decide (b.off=a.off) && decide (b.ln=a.ln))
def runT (l:List En):Nat→Bool
 | 0=>true
 | i+1=>runT l i && (decide (i=0) || !oneA (gS l (i - 1)) (gS l i))
def inT (l:List En) (n:Int):Nat→Bool
 | 0=>true
 | i+1=>inT l n i && decide ((gS l i).off+(gS l i).ln≤n)
def sumT (l:List En):Nat→Int
 | 0=>0
 | i+1=>sumT l i+(gS l i).rn
def prE (e:En):Int × Int:=(e.off,e.ln)
def ltP (a b:Int × Int):Bool:=decide (a.1<b.1) || (decide (a.1=b.1) && decide (a.2<b.2))
def atT (out:List En) (p:Int × Int):Nat→Nat
 | 0=>0
 | k+1=>if ltP (prE (gS out k)) p then k+1 else atT out p k
def isT (out:List En) (p:Int × Int):Nat→Bool
 | 0=>false
 | k+1=>isT out p k || decide (prE (gS out k)=p)
def insU (out:List En) (e:En):List En:=if isT out (prE e) out.length then out else out.take (atT out (prE e) out.length)++[e]++out.drop (atT out (prE e) out.length)
def uniA (l:List En):List En:=l.foldl insU []
instance decBA (s:ByteArray) (l:List ByteArray):Decidable (s ∈ l):=decidable_of_iff (l.any (fun x=>decide (x=s))=true) (by simp)
def txtP (d:ByteArray) (p:Int × Int):ByteArray:=d.extract p.1.toNat (p.1+p.2).toNat
def onceG (d:ByteArray):Int→List ByteArray→List (Int × Int)→Bool
 | a,_,[]=>decide (a=(d.size:Int))
 | a,seen,p :: r=>if p.1≠a then false else if txtP d p ∈ seen then false else onceG d (p.1+p.2) (seen++[txtP d p]) r
def tellR:Int→List Bool→List Int
 | _,[]=>[]
 | k,b :: r=>if b=true then tellR (k+1) r else k :: tellR (k+1) r
def zloA (l:List En):Int:=if l=[] then 0 else zofV (gS l 0).id
def zhiA (l:List En):Int:=if l=[] then 0 else zofV (laN (gS l (l.length - 1)))
def goodR (h:Hd) (l:List En) (d:ByteArray):List Bool :=
 [rowT l l.length,inT l d.size l.length,runT l l.length,!inT l d.size l.length || onceG d 0 [] ((uniA l).map prE),
  decide (h.ad=sumT l l.length) && (decide (h.en=(l.length:Int)) && decide (h.co=((uniA l).length:Int))),decide (h.z0=zloA l) && decide (h.z1=zhiA l)]
def rootA (h:Hd) (s:ByteArray):List En × Nat × Int:=decD (txtA s h.rf h.rl).data.toList
def budA (h:Hd) (b:Int):Bool:=decide (0≤b) && decide (h.rl≤b)
def frontA (h:Hd) (s:ByteArray) (b:Int):List Bool :=
 [decide (laidB h s.size=0),tightA h s.size,decide (h.inn=1) && (decide (h.out=1) && h.cl),isOb (takeV (bI (txtA s h.mf h.ml))).1,budA h b,decide ((rootA h s).2.2=0)]
def backA (h:Hd) (s:ByteArray):List Int :=
 if ((askA (txtA s h.lf h.ll) (rootA h s).1).lf || (askA (txtA s h.lf h.ll) (rootA h s).1).dp)=true then tellR 8 [!(askA (txtA s h.lf h.ll) (rootA h s).1).lf,!(askA (txtA s h.lf h.ll) (rootA h s).1).dp]
 else tellR 10 (goodR h (askA (txtA s h.lf h.ll) (rootA h s).1).l (txtA s h.df h.dl))
def bodyA (h:Hd) (s:ByteArray) (b:Int):List Int:=if (rootA h s).2.2≠0 then tellR 2 (frontA h s b) else tellR 2 (frontA h s b)++backA h s
def checkA (s:ByteArray) (b:Int):List Int:=if (decH (blCc s)).2≠0 then [1] else bodyA (decH (blCc s)).1 s b
theorem tellR_mem (k x:Int) (l:List Bool):x ∈ tellR k l↔∃ i:Nat,l[i]?=some false∧x=k+i:=by
 induction l generalizing k with
 | nil=>simp[tellR]
 | cons b r ih =>
  have h2:(∃ i:Nat,(b :: r)[i]?=some false∧x=k+i)↔(b=false∧x=k)∨∃ i:Nat,r[i]?=some false∧x=k+1+i:=by
   constructor
   ·rintro⟨i,hi,hx⟩
    cases i with
    | zero=>simp at hi;exact .inl ⟨hi,by simpa using hx⟩
    | succ i=>exact .inr ⟨i,by simpa using hi,by omega⟩
   ·rintro(⟨rfl,rfl⟩|⟨i,hi,hx⟩)
    ·exact⟨0,rfl,by simp⟩
    ·exact⟨i+1,by simpa using hi,by omega⟩
  rw[h2,tellR]
  cases b with
  | true=>rw[if_pos rfl,ih];simp
  | false=>rw[if_neg (by simp),List.mem_cons,ih];simp
theorem tellR_bd {k x:Int} {l:List Bool} (h:x ∈ tellR k l):k≤x∧x<k+l.length:=by
 obtain⟨i,hi,hx⟩:=(tellR_mem k x l).1 h
 have:=(List.getElem?_eq_some_iff.1 hi).1
 omega
theorem tellR_up (k:Int) (l:List Bool):(tellR k l).Pairwise (·<·):=by
 induction l generalizing k with
 | nil=>exact List.Pairwise.nil
 | cons b r ih =>
  rw[tellR]
  split
  ·exact ih _
  ·refine List.pairwise_cons.2 ⟨fun y hy=>?_,ih _⟩
   have:=(tellR_bd hy).1
   omega
theorem pair_app {a b:List Int} {m:Int} (ha:a.Pairwise (·<·)) (hb:b.Pairwise (·<·)) (h1:∀ x ∈ a,x<m) (h2:∀ x ∈ b,m≤x):(a++b).Pairwise (·<·) :=
 List.pairwise_append.2 ⟨ha,hb,fun x hx y hy=>by have:=h1 x hx;have:=h2 y hy;omega⟩
theorem front_bd {h:Hd} {s:ByteArray} {b x:Int} (hx:x ∈ tellR 2 (frontA h s b)):2≤x∧x<8:=by
 have:=tellR_bd hx
 have e:(frontA h s b).length=6:=rfl
 rw[e] at this
 omega
theorem back_bd {h:Hd} {s:ByteArray} {x:Int} (hx:x ∈ backA h s):8≤x∧x≤15:=by
 unfold backA at hx
 split at hx
 ·have:=tellR_bd hx;simp only[List.length_cons,List.length_nil] at this;omega
 ·have:=tellR_bd hx
  have e:∀ l d,(goodR h l d).length=6:=fun _ _=>rfl
  rw[e] at this
  omega
theorem back_up (h:Hd) (s:ByteArray):(backA h s).Pairwise (·<·):=by
 unfold backA
 split <;> exact tellR_up _ _
theorem body_up (h:Hd) (s:ByteArray) (b:Int):(bodyA h s b).Pairwise (·<·)∧∀ x ∈ bodyA h s b,2≤x∧x≤15:=by
 unfold bodyA
 split
 ·exact⟨tellR_up _ _,fun x hx=>by have:=front_bd hx;omega⟩
 ·refine⟨pair_app (m:=8) (tellR_up _ _) (back_up h s) (fun x hx=>(front_bd hx).2) (fun x hx=>(back_bd hx).1),fun x hx=>?_⟩
  rcases List.mem_append.1 hx with hx|hx
  ·have:=front_bd hx;omega
  ·have:=back_bd hx;omega
theorem check_up (s:ByteArray) (b:Int):(checkA s b).Pairwise (·<·)∧∀ x ∈ checkA s b,1≤x∧x≤15:=by
 unfold checkA
 split
 ·simp
 ·have:=body_up (decH (blCc s)).1 s b
  exact⟨this.1,fun x hx=>by have:=this.2 x hx;omega⟩
theorem tellR_len (k:Int) (l:List Bool):(tellR k l).length≤l.length:=by
 induction l generalizing k with
 | nil=>exact Nat.le_refl _
 | cons b r ih =>
  have:=ih (k+1)
  rw[tellR]
  split <;> simp only[List.length_cons] <;> omega
theorem check_len (s:ByteArray) (b:Int):(checkA s b).length≤12:=by
 unfold checkA
 split
 ·simp
 unfold bodyA
 have h1:=tellR_len 2 (frontA (decH (blCc s)).1 s b)
 have e1:(frontA (decH (blCc s)).1 s b).length=6:=rfl
 split
 ·omega
 ·rw[List.length_append]
  have h2:(backA (decH (blCc s)).1 s).length≤6:=by
   unfold backA
   split
   ·exact Nat.le_trans (tellR_len _ _) (by simp)
   ·exact tellR_len _ _
  omega
theorem ltP_iff (a b:Int × Int):ltP a b=true↔a.1<b.1∨a.1=b.1∧a.2<b.2:=by unfold ltP;simp
theorem ltP_trans {a b c:Int × Int} (h1:ltP a b=true) (h2:ltP b c=true):ltP a c=true:=by rw[ltP_iff] at *;omega
theorem ltP_not {a b:Int × Int} (h:ltP a b=true):ltP b a=false:=by rw[← Bool.not_eq_true,ltP_iff];rw[ltP_iff] at h;omega
theorem ltP_total {a b:Int × Int} (h:¬ ltP a b=true) (hn:a≠b):ltP b a=true:=by
 obtain⟨a1,a2⟩:=a
 obtain⟨b1,b2⟩:=b
 rw[ltP_iff] at *
 simp only at *
 by_cases e1:a1=b1
 ·by_cases e2:a2=b2
  ·exact absurd (by rw[e1,e2]) hn
  ·omega
 ·omega
def SU (l:List (Int × Int)):Prop:=l.Pairwise (fun a b=>ltP a b=true)
theorem su_at {out:List En} (h:SU (out.map prE)) {i j:Nat} (hij:i<j) (hj:j<out.length):ltP (prE (gS out i)) (prE (gS out j))=true:=by
 have:=List.pairwise_iff_getElem.1 h i j (by rw[List.length_map];omega) (by rw[List.length_map];omega) hij
 rw[List.getElem_map,List.getElem_map] at this
 have e1:=gS_at (l:=out) (k:=i) (List.getElem?_eq_getElem (by omega))
 have e2:=gS_at (l:=out) (k:=j) (List.getElem?_eq_getElem (by omega))
 rw[e1,e2]
 exact this
theorem at_spec {out:List En} (p:Int × Int) (h:SU (out.map prE)):∀ n,n≤out.length→atT out p n≤n∧(∀ k,k<atT out p n→ltP (prE (gS out k)) p=true)∧∀ k,atT out p n≤k→k<n→ltP (prE (gS out k)) p=false
 | 0,_=>⟨Nat.le_refl _,fun k hk=>by simp[atT] at hk,fun k _ hk=>by omega⟩
 | n+1,hn=>by
  rw[atT]
  split
  ·rename_i hl
   refine⟨Nat.le_refl _,fun k hk=>?_,fun k h1 h2=>by omega⟩
   by_cases e:k=n
   ·rw[e];exact hl
   ·exact ltP_trans (su_at h (show k<n by omega) (by omega)) hl
  ·rename_i hl
   obtain⟨h1,h2,h3⟩:=at_spec p h n (by omega)
   refine⟨by omega,h2,fun k h4 h5=>?_⟩
   by_cases e:k=n
   ·rw[e];simpa using hl
   ·exact h3 k h4 (by omega)
theorem is_spec (out:List En) (p:Int × Int):∀ n,isT out p n=true↔∃ k,k<n∧prE (gS out k)=p
 | 0=>by simp[isT]
 | n+1=>by
  rw[isT,Bool.or_eq_true,is_spec out p n,decide_eq_true_eq]
  constructor
  ·rintro(⟨k,hk,e⟩|e)
   ·exact⟨k,by omega,e⟩
   ·exact⟨n,by omega,e⟩
  ·rintro⟨k,hk,e⟩
   by_cases h:k=n
   ·subst h;exact .inr e
   ·exact .inl ⟨k,by omega,e⟩
theorem mem_prE {out:List En} {p:Int × Int}:p ∈ out.map prE↔∃ k,k<out.length∧prE (gS out k)=p:=by
 rw[List.mem_map]
 constructor
 ·rintro⟨e,he,rfl⟩
  obtain⟨k,hk,e1⟩:=List.mem_iff_getElem.1 he
  exact⟨k,hk,by rw[gS_at (List.getElem?_eq_getElem hk),e1]⟩
 ·rintro⟨k,hk,e⟩
  exact⟨_,gS_mem out k hk,e⟩
theorem ins_spec {out:List En} (e:En) (h:SU (out.map prE)):SU ((insU out e).map prE)∧(∀ q,q ∈ (insU out e).map prE↔q ∈ out.map prE∨q=prE e)∧(insU out e).length≤out.length+1:=by
 unfold insU
 cases hi:isT out (prE e) out.length with
 | true =>
  rw[if_pos rfl]
  refine⟨h,fun q=>⟨.inl,fun hq=>hq.elim id fun hq=>?_⟩,by omega⟩
  obtain⟨k,hk,e1⟩:=(is_spec out (prE e) _).1 hi
  rw[hq]
  exact mem_prE.2 ⟨k,hk,e1⟩
 | false =>
  rw[if_neg (by simp)]
  have hno:∀ k,k<out.length→prE (gS out k)≠prE e:=fun k hk e1=>by
   have:=(is_spec out (prE e) out.length).2 ⟨k,hk,e1⟩
   rw[hi] at this;cases this
  obtain⟨h1,h2,h3⟩:=at_spec (prE e) h out.length (Nat.le_refl _)
  generalize atT out (prE e) out.length=a at *
  have ht:∀ q ∈ (out.take a).map prE,ltP q (prE e)=true:=fun q hq=>by
   obtain⟨k,hk,e1⟩:=mem_prE.1 hq
   rw[List.length_take] at hk
   rw[gS_take _ _ _ (by omega)] at e1
   rw[← e1];exact h2 k (by omega)
  have hd:∀ q ∈ (out.drop a).map prE,ltP (prE e) q=true:=fun q hq=>by
   obtain⟨k,hk,e1⟩:=mem_prE.1 hq
   rw[List.length_drop] at hk
   rw[gS_drop] at e1
   rw[← e1]
   exact ltP_total (by rw[h3 (a+k) (by omega) (by omega)];simp) (hno _ (by omega))
  have hs:SU ((out.take a).map prE++(out.drop a).map prE):=by rw[← List.map_append,List.take_append_drop];exact h
  obtain⟨s1,s2,s3⟩:=List.pairwise_append.1 hs
  refine⟨?_,fun q=>?_,by simp;omega⟩
  ·rw[List.map_append,List.map_append]
   refine List.pairwise_append.2 ⟨List.pairwise_append.2 ⟨s1,by simp,fun x hx y hy=>?_⟩,s2,fun x hx y hy=>?_⟩
   ·simp only[List.map_cons,List.map_nil,List.mem_cons,List.not_mem_nil,or_false] at hy
    subst hy;exact ht x hx
   ·rcases List.mem_append.1 hx with hx|hx
    ·exact s3 x hx y hy
    ·simp only[List.map_cons,List.map_nil,List.mem_cons,List.not_mem_nil,or_false] at hx
     subst hx;exact hd y hy
  ·have e0:out.map prE=(out.take a).map prE++(out.drop a).map prE:=by rw[← List.map_append,List.take_append_drop]
   rw[e0]
   simp only[List.map_append,List.mem_append,List.map_cons,List.map_nil,List.mem_cons,List.not_mem_nil,or_false]
   constructor
   ·rintro((h|h)|h)
    ·exact .inl (.inl h)
    ·exact .inr h
    ·exact .inl (.inr h)
   ·rintro((h|h)|h)
    ·exact .inl (.inl h)
    ·exact .inr h
    ·exact .inl (.inr h)
theorem uni_fold (l acc:List En) (h:SU (acc.map prE)):SU ((l.foldl insU acc).map prE)∧(∀ q,q ∈ (l.foldl insU acc).map prE↔q ∈ acc.map prE∨q ∈ l.map prE)∧(l.foldl insU acc).length≤acc.length+l.length:=by
 induction l generalizing acc with
 | nil=>exact⟨h,fun q=>by simp,by simp⟩
 | cons e l ih =>
  obtain⟨h1,h2,h3⟩:=ins_spec e h
  obtain⟨i1,i2,i3⟩:=ih (insU acc e) h1
  refine⟨i1,fun q=>?_,by rw[List.foldl_cons,List.length_cons];omega⟩
  rw[List.foldl_cons,i2,h2,List.map_cons,List.mem_cons]
  constructor
  ·rintro((h|h)|h)
   ·exact .inl h
   ·exact .inr (.inl h)
   ·exact .inr (.inr h)
  ·rintro(h|h|h)
   ·exact .inl (.inl h)
   ·exact .inl (.inr h)
   ·exact .inr h
theorem uni_spec (l:List En):SU ((uniA l).map prE)∧(∀ q,q ∈ (uniA l).map prE↔q ∈ l.map prE)∧(uniA l).length≤l.length:=by
 obtain⟨h1,h2,h3⟩:=uni_fold l [] (by exact List.Pairwise.nil)
 exact⟨h1,fun q=>by rw[show uniA l=l.foldl insU [] from rfl,h2];simp,by have:(l.foldl insU []).length≤l.length:=(by simpa using h3);exact this⟩
theorem su_eq {a b:List (Int × Int)} (ha:SU a) (hb:SU b) (h:∀ q,q ∈ a↔q ∈ b):a=b:=by
 have nd:∀ {l:List (Int × Int)},SU l→l.Nodup:=fun hl=>hl.imp (fun {x y} hxy e=>by subst e;have:=ltP_not hxy;rw[hxy] at this;cases this)
 exact List.Perm.eq_of_pairwise (le:=fun x y=>ltP x y=true) (fun x y _ _ h1 h2=>by have:=ltP_not h1;rw[h2] at this;cases this) ha hb ((List.perm_ext_iff_of_nodup (nd ha) (nd hb)).2 h)
theorem tellR_app (k:Int) (a b:List Bool):tellR k (a++b)=tellR k a++tellR (k+a.length) b:=by
 induction a generalizing k with
 | nil=>simp[tellR]
 | cons x r ih =>
  rw[List.cons_append,tellR,tellR,ih,List.length_cons]
  have e:k+1+(r.length:Int)=k+((r.length+1:Nat):Int):=by omega
  rw[e]
  split <;> simp
def budL (c:Bool):List Int:=if c=true then [] else [6]
theorem check_parts (s:ByteArray):∃ A C:List Int,(∀ x ∈ A,x<6)∧(∀ x ∈ C,6<x)∧((∀ b,checkA s b=[1])∨∀ b,checkA s b=A++budL (budA (decH (blCc s)).1 b)++C):=by
 by_cases h:(decH (blCc s)).2≠0
 ·exact⟨[],[],by simp,by simp,.inl fun b=>by unfold checkA;rw[if_pos h]⟩
 ·generalize hh:(decH (blCc s)).1=X at *
  have fr:∀ b,tellR 2 (frontA X s b)=tellR 2 [decide (laidB X s.size=0),tightA X s.size,decide (X.inn=1) && (decide (X.out=1) && X.cl),isOb (takeV (bI (txtA s X.mf X.ml))).1]++budL (budA X b)++tellR 7 [decide ((rootA X s).2.2=0)]:=fun b=>by
   have:=tellR_app 2 [decide (laidB X s.size=0),tightA X s.size,decide (X.inn=1) && (decide (X.out=1) && X.cl),isOb (takeV (bI (txtA s X.mf X.ml))).1] [budA X b,decide ((rootA X s).2.2=0)]
   rw[show frontA X s b=[decide (laidB X s.size=0),tightA X s.size,decide (X.inn=1) && (decide (X.out=1) && X.cl),isOb (takeV (bI (txtA s X.mf X.ml))).1]++[budA X b,decide ((rootA X s).2.2=0)] from rfl,this,List.append_assoc]
   congr 1
   show tellR 6 _=_
   rw[tellR]
   unfold budL
   split <;> rfl
  refine⟨tellR 2 [decide (laidB X s.size=0),tightA X s.size,decide (X.inn=1) && (decide (X.out=1) && X.cl),isOb (takeV (bI (txtA s X.mf X.ml))).1],tellR 7 [decide ((rootA X s).2.2=0)]++(if (rootA X s).2.2≠0 then [] else backA X s),fun x hx=>?_,fun x hx=>?_,.inr fun b=>?_⟩
  ·have:=(tellR_bd hx).2
   simp only[List.length_cons,List.length_nil] at this
   omega
  ·rcases List.mem_append.1 hx with hx|hx
   ·have:=(tellR_bd hx).1;omega
   ·split at hx
    ·cases hx
    ·have:=back_bd hx;omega
  ·unfold checkA
   rw[if_neg h,hh]
   unfold bodyA
   rw[fr]
   split
   ·simp
   ·simp[List.append_assoc]
theorem check_head (s:ByteArray) (b:Int):1 ∈ checkA s b→checkA s b=[1]:=fun h=>by
 unfold checkA at h ⊢
 split
 ·rfl
 ·rename_i hd
  rw[if_neg hd] at h
  have:=(body_up _ _ _).2 1 h
  omega
theorem check_root (s:ByteArray) (b:Int):7 ∈ checkA s b→∀ x ∈ checkA s b,x≤7:=fun h x hx=>by
 unfold checkA at h hx
 split at hx
 ·simp at hx;omega
 ·rename_i hd
  rw[if_neg hd] at h
  unfold bodyA at h hx
  split at hx
  ·have:=front_bd hx;omega
  ·rename_i hr
   rw[if_neg hr] at h
   rcases List.mem_append.1 h with h|h
   ·obtain⟨i,hi,e⟩:=(tellR_mem _ _ _).1 h
    obtain rfl:i=5:=by omega
    have hr':(rootA (decH (blCc s)).1 s).2.2=0:=Classical.not_not.1 hr
    simp[frontA,hr'] at hi
   ·have:=back_bd h;omega
theorem in_rows {l:List En} {n:Int} (h:∀ e ∈ l,e.off+e.ln≤n):∀ k,k≤l.length→inT l n k=true
 | 0,_=>rfl
 | k+1,hk=>by rw[inT,in_rows h k (by omega)];simpa using h _ (gS_mem l k (by omega))
theorem sum_rows (l:List En) (hc:∀ e ∈ l,ckN e=0):∀ k,k≤l.length→sumT l k=cntN (l.take k)
 | 0,_=>by simp[sumT,cntN]
 | k+1,hk=>by
  have hk':=gS_get l k (by omega)
  rw[sumT,sum_rows l hc k (by omega),List.take_add_one,hk']
  show _=cntN (l.take k++[gS l k])
  rw[cntN_snoc,if_pos (hc _ (gS_mem l k (by omega)))]
end Go.Proofs.YtjkgkmmkehnggaaGreatDoor
namespace Go.Proofs.YtjkgkmmkehnggaaGreatDoor
set_option linter.unusedVariables false
set_option linter.unusedSimpArgs false
open Go.RowKit Go.Maps
set_option maxRecDepth 20000
theorem isMap_setOf {H:Type} (u:DataW H) (acc:List Lit):IsMap (setOf u acc):=by
 induction acc using snoc_ind with
 | h0=>exact isMap_empty
 | hs l a ih=>rw[setOf_snoc];exact ih.put a u
theorem at_setOf {H:Type} (u z:DataW H) (k:Lit) (acc:List Lit) (hk:∀ x ∈ acc,WideAt.IsKeyLit x) (hd:k ∈ acc∨k ∉ acc):(setOf u acc).atKey k z=if acc.any (fun x=>x.sameKey k)=true then u else z:=by
 induction acc using snoc_ind with
 | h0=>simp only[List.any_nil,Bool.false_eq_true,if_false];exact atKey_of_not_has rfl z
 | hs l a ih =>
  have hl:∀ x ∈ l,WideAt.IsKeyLit x:=fun x hx=>hk x (by simp[hx])
  rw[setOf_snoc,List.any_append,List.any_cons,List.any_nil,Bool.or_false]
  by_cases e:k=a
  ·subst e
   rw[atKey_put_same (isMap_setOf u l) (hk k (by simp)),WideAt.sameKey_self (hk k (by simp))]
   simp
  ·rw[atKey_put_other e,ih hl (Classical.em _),sameKey_ne (fun e'=>e e'.symm)]
   simp
def klU (x:Int):Lit:=.int .u8 x
theorem klU_key (R:List Int):∀ x ∈ R.map klU,WideAt.IsKeyLit x:=fun x hx=>by obtain⟨q,_,rfl⟩:=List.mem_map.1 hx;trivial
theorem klU_any (R:List Int) (x:Int):(R.map klU).any (fun y=>y.sameKey (klU x))=decide (x ∈ R):=by
 rw[List.any_map]
 by_cases h:x ∈ R
 ·rw[decide_eq_true h,List.any_eq_true]
  exact⟨x,h,by simp[Function.comp,klU,Lit.sameKey]⟩
 ·rw[decide_eq_false h,List.any_eq_false]
  intro y hy
  simp only[Function.comp,klU,Lit.sameKey]
  intro e
  have:y=x:=by simpa using e
  exact h (this ▸ hy)
def setU (R:List Int):DataW Unit:=setOf (.lit (.bool true)) (R.map klU)
theorem setU_snoc (R:List Int) (x:Int):setU (R++[x])=(setU R).put (klU x) (.lit (.bool true)):=by
 unfold setU
 rw[List.map_append]
 exact setOf_snoc _ _ _
theorem setU_at (R:List Int) (x:Int):(setU R).atKey (klU x) (.lit (.bool false))=.lit (.bool (decide (x ∈ R))):=by
 unfold setU
 rw[at_setOf _ _ _ _ (klU_key R) (Classical.em _),klU_any]
 by_cases h:x ∈ R <;> simp[h]
theorem setU_has (R:List Int) (x:Int):has (setU R) (klU x)=decide (x ∈ R):=by
 unfold setU
 rw[has_setOf _ _ _ (klU_key R),klU_any]
theorem bool_inv {P:Program} {e:TypeId} (he:P.underlying e=some .bool) {v:Value} {z:DataW Unit × List MemPlace} (h:plainElem P e v=some z):∃ x,v=.bool x∧z.1=.lit (.bool x):=by
 unfold plainElem at h
 rw[he] at h
 cases v <;> simp at h
 subst h
 exact⟨_,rfl,rfl⟩
theorem lawU:Keyed Tryz.prog 5:=int_keyed Tryz.underlying5
theorem keyU (x:Int) (h:0≤x∧x≤255):keyOf Tryz.prog 5 (.int .u8 x)=some (klU x):=by
 have hw:(Lit.int .u8 x).wf=true:=WalkArith.wf_u8 h
 simp[keyOf,mapKey,Tryz.underlying5,hw,klU]
def BrkAt (W:World) (b:Nat) (R:List Int):Prop:=(∀ x ∈ R,0≤x∧x≤255)∧W.ownsMap Tryz.prog 5 (plainElem (H:=Unit) Tryz.prog 4) b R.length (setU R)
theorem BrkAt.lt {W:World} {b:Nat} {R:List Int} (h:BrkAt W b R):b<W.heap.size:=h.2.lt
theorem BrkAt.made (w:World):BrkAt (w.alloc (.map #[] 0)) w.heap.size []:=⟨by simp,World.ownsMap_made _ _ _ _⟩
theorem BrkAt.below {W X:World} {b B:Nat} {R:List Int} (h:BrkAt W b R) (hb:Below B W X) (hB:b<B):BrkAt X b R:=by
 obtain⟨h0,es,clock,h1,h2⟩:=h
 exact⟨h0,es,clock,(hb.block b hB).trans h1,h2⟩
theorem BrkAt.look {W:World} {b:Nat} {R:List Int} (h:BrkAt W b R) (x:Int) (hx:0≤x∧x≤255):(Instr.lookup 48 (.map (some b)) (.int .u8 x) false).run Tryz.prog W=.ok (.bool (decide (x ∈ R))) W:=by
 obtain⟨v,ps,h1,h2⟩:=h.2.lookup lawU Tryz.underlying48 (Tryz.zeroValue4 W) (plainElem_bool Tryz.underlying4 false) (keyU x hx)
 obtain⟨y,rfl,hy⟩:=bool_inv Tryz.underlying4 h2
 rw[setU_at] at hy
 simp only[DataW.lit.injEq,Lit.bool.injEq] at hy
 rw[h1,hy]
theorem BrkAt.tell {W:World} {b:Nat} {R:List Int} (h:BrkAt W b R) (x:Int) (hx:0≤x∧x≤255) (hn:R.length<maxLen):∃ W',(Instr.mapUpdate 48 (.map (some b)) (.int .u8 x) (.bool true)).run Tryz.prog W=.ok () W'∧BrkAt W' b (R++[x])∧W.grownBy W' (some b):=by
 obtain⟨W',h1,h2,h3⟩:=h.2.update lawU Tryz.underlying48 hn (keyU x hx) (plainElem_bool Tryz.underlying4 true)
 refine⟨W',h1,⟨fun y hy=>?_,?_⟩,h3⟩
 ·rcases List.mem_append.1 hy with hy|hy
  ·exact h.1 y hy
  ·rw[List.mem_singleton.1 hy];exact hx
 ·rw[setU_snoc,List.length_append]
  exact h2
def klT (s:ByteArray):Lit:=.string s.data.toList
theorem klT_key (R:List ByteArray):∀ x ∈ R.map klT,WideAt.IsKeyLit x:=fun x hx=>by obtain⟨q,_,rfl⟩:=List.mem_map.1 hx;trivial
theorem klT_inj {a b:ByteArray} (h:klT a=klT b):a=b:=by
 simp only[klT,Lit.string.injEq] at h
 exact ByteArray.ext (Array.toList_inj.1 h)
theorem klT_any (R:List ByteArray) (x:ByteArray):(R.map klT).any (fun y=>y.sameKey (klT x))=decide (x ∈ R):=by
 rw[List.any_map]
 by_cases h:x ∈ R
 ·rw[decide_eq_true h,List.any_eq_true]
  exact⟨x,h,WideAt.sameKey_self (show WideAt.IsKeyLit (klT x) from trivial)⟩
 ·rw[decide_eq_false h,List.any_eq_false]
  intro y hy e
  have:=klT_inj (WideAt.sameKey_eq e)
  exact h (this ▸ hy)
def setT (R:List ByteArray):DataW Unit:=setOf (.lit (.bool true)) (R.map klT)
theorem setT_snoc (R:List ByteArray) (x:ByteArray):setT (R++[x])=(setT R).put (klT x) (.lit (.bool true)):=by
 unfold setT
 rw[List.map_append]
 exact setOf_snoc _ _ _
theorem setT_at (R:List ByteArray) (x:ByteArray):(setT R).atKey (klT x) (.lit (.bool false))=.lit (.bool (decide (x ∈ R))):=by
 unfold setT
 rw[at_setOf _ _ _ _ (klT_key R) (Classical.em _),klT_any]
 by_cases h:x ∈ R <;> simp[h]
theorem lawT:Keyed Tryz.prog 9:=string_keyed Tryz.underlying9
theorem keyT (s:ByteArray) (h:s.size≤maxLen):keyOf Tryz.prog 9 (.string s)=some (klT s):=by
 simp[keyOf,mapKey,Tryz.underlying9,h,klT]
def SeenAt (W:World) (b:Nat) (R:List ByteArray):Prop:=W.ownsMap Tryz.prog 9 (plainElem (H:=Unit) Tryz.prog 4) b R.length (setT R)
theorem SeenAt.made (w:World):SeenAt (w.alloc (.map #[] 0)) w.heap.size []:=World.ownsMap_made _ _ _ _
theorem SeenAt.look {W:World} {b:Nat} {R:List ByteArray} (h:SeenAt W b R) (x:ByteArray) (hx:x.size≤maxLen):(Instr.lookup 295 (.map (some b)) (.string x) false).run Tryz.prog W=.ok (.bool (decide (x ∈ R))) W:=by
 obtain⟨v,ps,h1,h2⟩:=World.ownsMap.lookup h lawT Tryz.underlying295 (Tryz.zeroValue4 W) (plainElem_bool Tryz.underlying4 false) (keyT x hx)
 obtain⟨y,rfl,hy⟩:=bool_inv Tryz.underlying4 h2
 rw[setT_at] at hy
 simp only[DataW.lit.injEq,Lit.bool.injEq] at hy
 rw[h1,hy]
theorem SeenAt.tell {W:World} {b:Nat} {R:List ByteArray} (h:SeenAt W b R) (x:ByteArray) (hx:x.size≤maxLen) (hn:R.length<maxLen):∃ W',(Instr.mapUpdate 295 (.map (some b)) (.string x) (.bool true)).run Tryz.prog W=.ok () W'∧SeenAt W' b (R++[x])∧W.grownBy W' (some b):=by
 obtain⟨W',h1,h2,h3⟩:=World.ownsMap.update h lawT Tryz.underlying295 hn (keyT x hx) (plainElem_bool Tryz.underlying4 true)
 refine⟨W',h1,?_,h3⟩
 unfold SeenAt
 rw[setT_snoc,List.length_append]
 exact h2
theorem EnsAt.grown {W X:World} {v:Value} {l:List En} {b:Nat} (h:EnsAt W v l) (hg:W.grownBy X (some b)) (hb:∃ es c,W.heap[b]?=some (.map es c)):EnsAt X v l:=by
 obtain⟨es,c,hm⟩:=hb
 obtain⟨a,cap,rfl,h1,h2,hc⟩:=h
 refine⟨a,cap,rfl,h1,h2,fun k t ht=>?_⟩
 obtain⟨g,off,ha,hgl,c0,c1,c2,c3⟩:=hc k t ht
 have hn:g≠b:=by
  rintro rfl
  simp[World.cell?,hm] at c3
 have hne:∀ o,some (⟨g,o,none⟩:Addr).block≠some b:=fun o e=>hn (Option.some.inj e)
 exact⟨g,off,ha,Nat.lt_of_lt_of_le hgl hg.size,hg.cell c0 (hne _),hg.cell c1 (hne _),hg.cell c2 (hne _),hg.cell c3 (hne _)⟩
theorem BrkAt.map {W:World} {b:Nat} {R:List Int} (h:BrkAt W b R):∃ es c,W.heap[b]?=some (.map es c):=by
 obtain⟨_,es,clock,h1,_⟩:=h
 exact⟨es,clock,h1⟩
end Go.Proofs.YtjkgkmmkehnggaaGreatDoor
namespace Go.Proofs.YtjkgkmmkehnggaaGreatDoor
set_option linter.unusedVariables false
set_option linter.unusedSimpArgs false
open Go.RowKit
set_option maxRecDepth 20000
theorem is_obj (S:Nat→Prop) (J:Js) (x:Value) (w:World) (h:AnyAt S w J x):∃ v,∀ W,(Instr.typeAssert x 20 136 true).run Tryz.prog W=.ok (.tuple #[v,.bool (isOb J)]) W:=by
 cases J <;> rw[AnyAt] at h
 ·subst h;exact⟨_,fun W=>assert_nil _ _ _ _ Tryz.underlying136 rfl zPrs W⟩
 ·subst h;exact⟨_,fun W=>assert_no _ _ _ _ _ _ Tryz.underlying136 rfl zPrs (by decide) W⟩
 ·subst h;exact⟨_,fun W=>assert_no _ _ _ _ _ _ Tryz.underlying136 rfl zPrs (by decide) W⟩
 ·obtain⟨t,rfl,_⟩:=h;exact⟨_,fun W=>assert_no _ _ _ _ _ _ Tryz.underlying136 rfl zPrs (by decide) W⟩
 ·obtain⟨a,c,rfl,_⟩:=h;exact⟨_,fun W=>assert_no _ _ _ _ _ _ Tryz.underlying136 rfl zPrs (by decide) W⟩
 ·obtain⟨a,c,rfl,_⟩:=h;exact⟨_,fun W=>assert_yes _ _ _ _ Tryz.underlying136 rfl W⟩
 ·subst h;exact⟨_,fun W=>assert_no _ _ _ _ _ _ Tryz.underlying136 rfl zPrs (by decide) W⟩
def planV (b k:Int) (s:ByteArray):Array Value:=#[.int .i64 b,.int .u8 k,.string s]
set_option maxHeartbeats 1000000 in
theorem check18_any (b k:Int) (s:ByteArray) (w:World) (hq:QTab w) (hs:s.size≤1000000):Calls Tryz.prog 28 #[.agg (planV b k s)] w fun e w'=>e=.returned (.int .i64 (ckP b k s))∧Below w.heap.size w w':=by
 unfold planV ckP
 have HT:=Lib.hid (fun W hq=>ptake_any s W hq hs)
 have HQ:=Lib.hid (fun W (hb:Below w.heap.size w W)=>hq.below hb)
 obtain⟨V,hV⟩:∃ V,takeV (bI s)=V:=⟨_,rfl⟩
 rw[hV] at HT ⊢
 unfold TakeV at HT
 clear hq hV
 by_cases h1:b<512
 ·rw[if_pos (.inl h1)]
  have e1:decide (b<512)=true:=decide_eq_true h1
  clear h1
  go_enter Tryz.func28,Tryz.ntmps28
  go_wp2_with fail
  go_ret
  exact⟨rfl,by go_grown⟩
 have e1:decide (b<512)=false:=decide_eq_false h1
 by_cases h2:16257<b
 ·rw[if_pos (.inr h2)]
  have e2:decide (16257<b)=true:=decide_eq_true h2
  clear h1 h2
  go_enter Tryz.func28,Tryz.ntmps28
  go_wp2_with fail
  go_ret
  exact⟨rfl,by go_grown⟩
 have e2:decide (16257<b)=false:=decide_eq_false h2
 rw[if_neg (by omega)]
 by_cases h3:5<k
 ·rw[if_pos h3]
  have e3:decide (5<k)=true:=decide_eq_true h3
  clear h1 h2 h3
  go_enter Tryz.func28,Tryz.ntmps28
  go_wp2_with fail
  go_ret
  exact⟨rfl,by go_grown⟩
 have e3:decide (5<k)=false:=decide_eq_false h3
 rw[if_neg h3]
 obtain⟨R,hR⟩:∃ R,(if V.2.2≠0 then V.2.2 else if isOb V.1=true then 0 else 4)=R:=⟨_,rfl⟩
 rw[hR]
 have HR:=Lib.hid hR
 clear h1 h2 h3 hR
 go_enter Tryz.func28,Tryz.ntmps28
 go_wp2_with fail
 have HB0:Hid (Below w.heap.size w (w.alloc (.cells #[.int .i64 b,.int .u8 k,.string s] 38))):=Lib.hid ((Below.refl _ _).alloc (Nat.le_refl _) _)
 refine(HT.out _ (HQ.out _ HB0.out)).mono ?_
 rintro e w1 ⟨⟨x,rfl,hx⟩,hb1⟩
 have HB:=Lib.hid (HB0.out.trans (hb1.mono HB0.out.size))
 obtain⟨v,hv⟩:=is_obj _ _ _ _ hx
 clear hx hb1 HT HB0
 by_cases h4:V.2.2=0
 ·have e4:(V.2.2 == 0)=true:=by simp[h4]
  have HR1:=Lib.hid (HR.out.symm.trans (if_neg (by simpa using h4)))
  cases h5:isOb V.1 with
  | true =>
   rw[h5] at hv
   have HR2:=Lib.hid (HR1.out.trans (if_pos h5))
   clear h4 h5
   generalize V.2.2=z at *
   go_wp2_with fail
   go_ret
   exact⟨by rw[HR2.out];rfl,HB.out⟩
  | false =>
   rw[h5] at hv
   have HR2:=Lib.hid (HR1.out.trans (if_neg (by simp[h5])))
   clear h4 h5
   generalize V.2.2=z at *
   go_wp2_with fail
   go_ret
   exact⟨by rw[HR2.out];rfl,HB.out⟩
 ·have e4:(V.2.2 == 0)=false:=by simp[h4]
  have HR2:=Lib.hid (HR.out.symm.trans (if_pos (by simpa using h4)))
  clear h4
  generalize V.2.2=z at *
  go_wp2_with fail
  go_ret
  exact⟨by rw[HR2.out];rfl,HB.out⟩
theorem aptr_any (e:En) (w:World):Calls Tryz.prog 108 #[.agg (eC e)] w fun x w'=>x=.returned (.bool (decide (e.rn=0)))∧Below w.heap.size w w':=by
 obtain⟨i,o,l,r⟩:=e
 unfold eC
 dsimp only
 have hd:(r == 0)=decide (r=0):=by rw[Bool.eq_iff_iff];simp
 go_enter Tryz.func108,Tryz.ntmps108
 go_wp2_with fail
 go_ret
 exact⟨ret_b (by first|exact hd|rfl|simp),by go_grown⟩
theorem ptr_leaves (l:List En):ptrA l=decide (leavesN l≠[]):=by
 unfold ptrA leavesN
 rw[Bool.eq_iff_iff,List.any_eq_true,decide_eq_true_eq]
 constructor
 ·rintro⟨x,hx,h⟩ h0
  exact List.filter_eq_nil_iff.1 h0 x hx h
 ·intro h
  refine Classical.byContradiction (fun hn=>h (List.filter_eq_nil_iff.2 (fun x hx hr=>hn ⟨x,hx,hr⟩)))
set_option maxHeartbeats 1000000 in
theorem aidx_any (v:Value) (l:List En) (w:World) (hv:EnsAt w v l) (hl:l.length≤20000000):Calls Tryz.prog 184 #[v,.func (.func 108) #[] #[]] w (IdxP l w):=by
 obtain⟨a,cap,rfl,h1,h2,hc⟩:=hv
 have HC:=Lib.hid hc
 clear hc
 go_enter Tryz.func184,Tryz.ntmps184
 go_wp2_with fail
 go_loopw [8] (fun s wr=>∃ i:Nat,i≤l.length∧s=.int .i64 i∧Hid (leavesN (l.take i)=[])∧Below w.heap.size w wr) (fun s _=>l.length - (intOf s).toNat)
 case atStart=>exact⟨0,Nat.zero_le _,rfl,Lib.hid rfl,Below.refl _ _⟩
 case round =>
  obtain⟨i,hi,rfl,HM,hbw⟩:=hrel
  by_cases hlt:i<l.length
  ·obtain⟨t,ht⟩:∃ t,l[i]?=some t:=⟨_,List.getElem?_eq_getElem hlt⟩
   obtain⟨g,off,rfl,hg,hcs⟩:=HC.out i t ht
   obtain⟨l0,l1,l2,l3⟩:=cells4 hbw hcs
   have hi2:(i:Int)<(l.length:Int):=by omega
   have HT:=Lib.hid ht
   have HE:=Lib.hid (aptr_any t wr)
   have HTK:=Lib.hid (leaves_take i t ht)
   have HSM:=Lib.hid (leaves_some i t ht)
   clear ht hcs
   obtain⟨p1,p2,p3,p4⟩:=t
   unfold eC at HE
   dsimp only at l0 l1 l2 l3 HE HTK HSM
   by_cases hp:p4=0
   ·have HP:=Lib.hid (HSM.out hp)
    rw[decide_eq_true hp] at HE
    clear hp
    go_wp2_with fail
    refine HE.out.mono ?_
    rintro e w1 ⟨rfl,hb⟩
    have hbw1:=hbw.trans (hb.mono hbw.size)
    clear hb hbw l0 l1 l2 l3 HE
    go_wp2_with fail
    go_ret
    exact⟨i,rfl,by rw[decide_eq_true HP.out,decide_eq_true (by omega)],hbw1⟩
   ·have HP:Hid (leavesN (l.take (i+1))=[]):=Lib.hid (by rw[HTK.out,HM.out];unfold leavesN;simp[hp])
    rw[decide_eq_false hp] at HE
    clear hp
    go_wp2_with fail
    refine HE.out.mono ?_
    rintro e w1 ⟨rfl,hb⟩
    have hbw1:=hbw.trans (hb.mono hbw.size)
    clear hb hbw l0 l1 l2 l3 HE
    go_wp2_with fail
    go_roundw
    case rel=>exact⟨i+1,by omega,by go_num,HP,hbw1⟩
    case measure=>simp[intOf];omega
  ·obtain rfl:i=l.length:=by omega
   rw[List.take_length] at HM
   go_wp2_with fail
   go_ret
   exact⟨-1,rfl,by rw[HM.out];decide,hbw⟩
theorem acont_any (v:Value) (l:List En) (w:World) (hv:EnsAt w v l) (hl:l.length≤20000000):Calls Tryz.prog 110 #[v,.func (.func 108) #[] #[]] w fun x w'=>x=.returned (.bool (ptrA l))∧Below w.heap.size w w':=by
 have HI:=Lib.hid (aidx_any v l w hv hl)
 rw[ptr_leaves]
 obtain⟨av,cv,rfl⟩:=ensAt_form hv
 clear hv
 go_enter Tryz.func110,Tryz.ntmps110
 go_wp2_with fail
 refine HI.out.mono ?_
 rintro x w1 ⟨r,rfl,hr,hb⟩
 have HR:=Lib.hid hr
 clear hr
 go_wp2_with fail
 go_ret
 exact⟨ret_b HR.out,hb⟩
theorem aobj_any (s:ByteArray) (w:World) (hq:QTab w) (hs:s.size≤1000000):Calls Tryz.prog 42 #[.string s] w fun e w'=>e=.returned (.bool (isOb (takeV (bI s)).1))∧Below w.heap.size w w':=by
 have HT:=Lib.hid (ptake_any s w hq hs)
 obtain⟨V,hV⟩:∃ V,takeV (bI s)=V:=⟨_,rfl⟩
 rw[hV] at HT ⊢
 unfold TakeV at HT
 obtain⟨b,hbo⟩:∃ b,isOb V.1=b:=⟨_,rfl⟩
 rw[hbo]
 have HBO:=Lib.hid hbo
 clear hq hV hbo
 go_enter Tryz.func42,Tryz.ntmps42
 go_wp2_with fail
 refine HT.out.mono ?_
 rintro e w1 ⟨⟨x,rfl,hx⟩,hb1⟩
 have HB:=Lib.hid hb1
 obtain⟨v,hv⟩:=is_obj _ _ _ _ hx
 rw[HBO.out] at hv
 clear hx hb1 HT HBO
 generalize V.2.2=z at *
 generalize (V.2.1:Int)=n at *
 go_wp2_with fail
 go_ret
 exact⟨rfl,HB.out⟩
theorem atext_any (s:ByteArray) (f l:Int) (w:World) (hs:s.size≤1000000) (f0:0≤f) (l0:0≤l) (hfl:f+l≤1099511627776) :
  Calls Tryz.prog 43 #[.string s,.agg #[.int .u64 f,.int .u64 l]] w fun e w'=>e=.returned (.string (txtA s f l))∧Below w.heap.size w w':=by
 have hw4:IntKind.u64.wrap (f+l)=f+l:=by rw[IntKind.wrap_u64];omega
 have hw5:IntKind.u64.wrap (s.size:Int)=(s.size:Int):=by rw[IntKind.wrap_u64];omega
 have HEN:=Lib.hid (fun W=>end_sec f l W)
 rw[hw4] at HEN
 obtain⟨a,ha⟩:∃ a,min f (s.size:Int)=a:=⟨_,rfl⟩
 obtain⟨b,hb⟩:∃ b,min (f+l) (s.size:Int)=b:=⟨_,rfl⟩
 unfold txtA
 have a0:0≤a:=by omega
 have a1:a≤b:=by omega
 have a2:b≤(s.size:Int):=by omega
 rw[ha,hb]
 go_enter Tryz.func43,Tryz.ntmps43
 go_upto_region 2 with fail
 refine wp_region_held_drew (S:=fun w'=>w'.cell? ⟨w.heap.size,0,none⟩=some (.int .u64 f)∧w'.cell? ⟨w.heap.size,1,none⟩=some (.int .u64 l)∧w.heap.size<w'.heap.size∧Below w.heap.size w w') (by kernel_rfl) ⟨by simp[go_sem],by simp[go_sem],by simp,by go_grown⟩ (fun hH0=>?_)
 refine tK 0 9 hH0 ?_
 try simp only[Act.put,zsA,zsB,zsC]
 refine tK 1 10 hH0 ?_
 try simp only[Act.put,zsA,zsB,zsC]
 refine tK 2 11 hH0 ?_
 try simp only[Act.put,zsA,zsB,zsC]
 refine tK 3 12 hH0 ?_
 try simp only[Act.put,zsA,zsB,zsC]
 refine tK 4 13 hH0 ?_
 try simp only[Act.put,zsA,zsB,zsC]
 refine tK 5 14 hH0 ?_
 try simp only[Act.put,zsA,zsB,zsC]
 refine tK 7 16 hH0 ?_
 try simp only[Act.put,zsA,zsB,zsC]
 refine wpAnyH_ready (rs:=[6]) (by kernel_rfl) (by simp) ?_
 refine AllReadyH.cons rfl (fun K hK=>?_) AllReadyH.nil
 go_simp
 refine(HEN.out _).mono ?_
 rintro e w1 ⟨rfl,hb⟩
 go_wp2_with fail
 refine hK.out _ _ (⟨ecell_later hb hH0.1,ecell_later hb hH0.2.1,Nat.lt_of_lt_of_le hH0.2.2.1 hb.size,hH0.2.2.2.trans (hb.mono (Nat.le_of_lt hH0.2.2.1))⟩) (fun hH1=>?_)
 clear hb hH0
 clear hK K
 try simp only[Act.put,zsA,zsB,zsC]
 refine tK 8 17 hH1 ?_
 try simp only[Act.put,zsA,zsB,zsC]
 refine tK 9 18 hH1 ?_
 try simp only[Act.put,zsA,zsB,zsC]
 refine tK 10 4 hH1 ?_
 try simp only[Act.put,zsA,zsB,zsC]
 refine wpAnyH_done (by kernel_rfl) ?_ _
 go_wp2_with fail
 go_ret
 exact⟨rfl,by first|exact hH1.2.2.2|go_grown⟩
theorem qcell_lt {w:World} {a:Addr} {v:Value} (h:w.cell? a=some v):a.block<w.heap.size:=by
 rcases Nat.lt_or_ge a.block w.heap.size with h'|h'
 ·exact h'
 ·simp[World.cell?,Array.getElem?_eq_none h'] at h
theorem qcell_later {w w':World} {a:Addr} {v:Value} (hb:Below w.heap.size w w') (h:w.cell? a=some v):w'.cell? a=some v:=(hb.cell (p:=a) (qcell_lt h)).trans h
def flatQ:List (Int × Int)→List Value
 | []=>[]
 | t :: l=>.int .u64 t.1 :: .int .u32 t.2 :: flatQ l
theorem flatQ_len (l:List (Int × Int)):(flatQ l).length=l.length*2:=by
 induction l with
 | nil=>rfl
 | cons t l ih=>simp only[flatQ,List.length_cons,ih];omega
theorem flatQ_take (l:List (Int × Int)) (n:Nat):flatQ (l.take n)=(flatQ l).take (n*2):=by
 induction l generalizing n with
 | nil=>simp[flatQ]
 | cons t l ih =>
  cases n with
  | zero=>simp[flatQ]
  | succ n=>rw[show (n+1)*2=n*2+1+1 from by omega];simp[flatQ,ih]
theorem flatQ_at (l:List (Int × Int)) (n:Nat) (t:Int × Int) (h:l[n]?=some t):(flatQ l)[n*2]?=some (.int .u64 t.1)∧(flatQ l)[n*2+1]?=some (.int .u32 t.2):=by
 induction l generalizing n with
 | nil=>simp at h
 | cons u l ih =>
  cases n with
  | zero=>simp only[List.getElem?_cons_zero,Option.some.injEq] at h;subst h;exact⟨rfl,rfl⟩
  | succ n =>
   have:=ih n (by simpa using h)
   rw[show (n+1)*2=n*2+1+1 from by omega]
   simpa[flatQ] using this
def PqAt (w:World) (v:Value) (l:List (Int × Int)):Prop :=
 ∃ a cap,v=.slice a l.length cap∧l.length≤cap∧cap≤maxLen∧∀ (k:Nat) (t:Int × Int),l[k]?=some t→∃ g off,a=some ⟨g,off,none⟩∧g<w.heap.size∧w.cell? ⟨g,off+k*2,none⟩=some (.int .u64 t.1)∧w.cell? ⟨g,off+k*2+1,none⟩=some (.int .u32 t.2)
theorem PqAt.below {w w':World} {v:Value} {l:List (Int × Int)} (h:PqAt w v l) (hb:Below w.heap.size w w'):PqAt w' v l:=by
 obtain⟨a,cap,hv,h1,h2,hc⟩:=h
 refine⟨a,cap,hv,h1,h2,fun k t ht=>?_⟩
 obtain⟨g,off,ha,hg,c0,c1⟩:=hc k t ht
 exact⟨g,off,ha,Nat.lt_of_lt_of_le hg hb.size,qcell_later hb c0,qcell_later hb c1⟩
theorem pq_nil (w:World):PqAt w (.slice none 0 0) []:=⟨none,0,rfl,Nat.le_refl _,by unfold maxLen;omega,fun k t h=>by simp at h⟩
def OwnQ (w:World) (B:Nat) (E:TypeId) (v:Value) (l:List (Int × Int)):Prop:=w.ownsRow B E 2 v l.length (flatQ l)
theorem OwnQ.lt {w:World} {B:Nat} {E:TypeId} {v:Value} {l:List (Int × Int)} (h:OwnQ w B E v l):∀ k,v.ownBlock=some k→B≤k∧k<w.heap.size:=World.ownsRow.lt h
theorem OwnQ.below {w w':World} {B:Nat} {E:TypeId} {v:Value} {l:List (Int × Int)} (h:OwnQ w B E v l) (hb:Below w.heap.size w w'):OwnQ w' B E v l:=by
 have hlt:=h.lt
 obtain⟨h1,h2⟩:=h
 refine⟨h1,?_⟩
 rcases h2 with h2|⟨g,cap,cur,hv,hg,hh,r⟩
 ·exact .inl h2
 ·refine .inr ⟨g,cap,cur,hv,hg,?_,r⟩
  rw[hb.block g (hlt g (by rw[hv];rfl)).2];exact hh
theorem OwnQ.form {w:World} {B:Nat} {E:TypeId} {v:Value} {l:List (Int × Int)} (h:OwnQ w B E v l) :
  (v=.slice none 0 0∧l=[])∨∃ g cap,v=.slice (some ⟨g,0,none⟩) l.length cap∧B≤g∧g<w.heap.size∧l.length≤cap∧cap≤maxLen∧(∀ j,j<l.length*2→w.cell? ⟨g,j,none⟩=(flatQ l)[j]?)∧∀ j,w.frozen? ⟨g,j,none⟩=false:=by
 have hlt:=h.lt
 have h':=h
 obtain⟨h1,h2⟩:=h
 rcases h2 with ⟨rfl,hn⟩|⟨g,cap,cur,rfl,hg,hh,hle,hm,_⟩
 ·exact .inl ⟨rfl,List.eq_nil_of_length_eq_zero hn⟩
 ·exact .inr ⟨g,cap,rfl,hg,(hlt g rfl).2,hle,hm,fun j hj=>World.ownsRow.cellAt h' j hj,fun j=>World.ownsRow.frozenAt h' j⟩
theorem OwnQ.pqAt {w:World} {B:Nat} {E:TypeId} {v:Value} {l:List (Int × Int)} (h:OwnQ w B E v l):PqAt w v l:=by
 rcases h.form with ⟨rfl,rfl⟩|⟨g,cap,rfl,hB,hg,hle,hm,hc,_⟩
 ·exact pq_nil w
 ·refine⟨_,cap,rfl,hle,hm,fun k t ht=>⟨g,0,rfl,hg,?_⟩⟩
  have hk:k<l.length:=(List.getElem?_eq_some_iff.1 ht).1
  obtain⟨f0,f1⟩:=flatQ_at l k t ht
  exact⟨by rw[Nat.zero_add,hc _ (by omega)];exact f0,by rw[Nat.zero_add,hc _ (by omega)];exact f1⟩
theorem ownq_conv {w:World} {B n:Nat} {E:TypeId} {v:Value} {xs:List Value} {l:List (Int × Int)} (h:w.ownsRow B E 2 v n xs) (hn:n=l.length) (hx:xs=flatQ l):OwnQ w B E v l:=by
 subst hn;subst hx;exact h
theorem flatQ_set (M:List (Int × Int)) (k:Nat) (t:Int × Int):((flatQ M).set (k*2) (.int .u64 t.1)).set (k*2+1) (.int .u32 t.2)=flatQ (M.set k t):=by
 induction M generalizing k with
 | nil=>rfl
 | cons u M ih =>
  cases k with
  | zero=>rfl
  | succ k =>
   rw[show (k+1)*2+1=k*2+1+1+1 from by omega,show (k+1)*2=k*2+1+1 from by omega]
   simp only[flatQ,List.set_cons_succ,ih]
theorem ones_zeroQ (n:Nat):∀ v ∈ (Builtin.zeroCells #[.int .u64 0,.int .u32 0] n).toList,v.oneCell'=true:=by
 intro v hv
 rw[Array.mem_toList_iff] at hv
 obtain⟨i,hi,rfl⟩:=Array.mem_iff_getElem.1 hv
 simp only[Builtin.zeroCells,Array.getElem_map,Array.getElem_range] at hi ⊢
 generalize i % (#[Value.int .u64 0,Value.int .u32 0]:Array Value).size=r
 match r with
 | 0=>rfl
 | 1=>rfl
 | r+2=>rfl
theorem run_clearQ (W:World) (g o n c:Nat) (hn:0<n) (hc:∀ j,j<n*2→(W.cell? ⟨g,o+j,none⟩).isSome=true) (hf:∀ j,j<n*2→W.frozen? ⟨g,o+j,none⟩=false) (ty:TypeId) :
  (Builtin.clear_ #[216] ty #[.slice (some ⟨g,o,none⟩) n c]).run Tryz.prog W=.ok (.tuple #[]) (W.setCells g o (Builtin.zeroCells #[.int .u64 0,.int .u32 0] n).toList):=by
 have hlen:(Builtin.zeroCells #[.int .u64 0,.int .u32 0] n).toList.length=n*2:=by rw[Array.length_toList,size_zeroCells];rfl
 have hst:=run_storeCells_cells (P:=Tryz.prog) g o (Builtin.zeroCells #[.int .u64 0,.int .u32 0] n).toList 0 W (by rw[hlen];simpa using hc) (by rw[hlen];simpa using hf) (ones_zeroQ n)
 simp only[Nat.add_zero] at hst
 obtain⟨m,rfl⟩:∃ m,n=m+1:=⟨n - 1,by omega⟩
 have ht:=Tryz.underlying216
 have hv:=Tryz.zeroValue214
 have hz:(Value.agg #[.int .u64 0,.int .u32 0]).cells=#[.int .u64 0,.int .u32 0]:=by kernel_rfl
 simp[Builtin.clear_,run_underlying ht,hv,hz,hst]
theorem OwnQ.cut {W:World} {B:Nat} {g cap n k:Nat} {M:List (Int × Int)} (h:OwnQ W B 214 (.slice (some ⟨g,0,none⟩) n cap) M) (hn:M.length=n) (hk:k≤n):OwnQ W B 214 (.slice (some ⟨g,0,none⟩) k cap) (M.take k):=by
 obtain⟨h1,h2⟩:=h
 rcases h2 with ⟨h2,_⟩|⟨g',cap',cur,hv,hg,hh,hle,hm,hs,ht⟩
 ·cases h2
 ·injection hv with e1 e2 e3
  injection e1 with e1
  injection e1 with e1
  subst e1 e3
  have hl:(M.take k).length=k:=by rw[List.length_take];omega
  refine⟨by rw[flatQ_len],.inr ⟨g,cap,cur,by rw[hl],hg,hh,by omega,hm,hs,?_⟩⟩
  rw[hl,flatQ_take,← ht,List.take_take,hn]
  congr 1
  omega
theorem set_pastQ (W:World) (B g cap k:Nat) (M:List (Int × Int)) (hk:M.length=k) (h:OwnQ W B 214 (.slice (some ⟨g,0,none⟩) k cap) M) (vs:List Value) (o:Nat) (ho:k*2≤o) :
  OwnQ (W.setCells g o vs) B 214 (.slice (some ⟨g,0,none⟩) k cap) M∧W.grownBy (W.setCells g o vs) (some g):=by
 induction vs generalizing W o with
 | nil=>exact⟨h,World.grownBy.refl _ _⟩
 | cons u vs ih =>
  have h2:=h
  unfold OwnQ at h2
  rw[hk] at h2
  have h3:=World.ownsRow.stored h2 o u
  rw[List.set_eq_of_length_le (by rw[flatQ_len];omega)] at h3
  have h4:OwnQ (W.setCell ⟨g,o,none⟩ u) B 214 (.slice (some ⟨g,0,none⟩) k cap) M:=ownq_conv h3.1 hk.symm rfl
  obtain⟨i1,i2⟩:=ih _ h4 (o+1) (by omega)
  exact⟨i1,h3.2.trans i2⟩
end Go.Proofs.YtjkgkmmkehnggaaGreatDoor
