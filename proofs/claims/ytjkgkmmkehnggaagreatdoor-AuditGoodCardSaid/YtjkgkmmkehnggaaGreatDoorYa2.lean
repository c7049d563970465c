/- aMb aMc aFa aGa aLc aLe aLq aHa aHb. -/
import Derived.Test.YtjkgkmmkehnggaaGreatDoorYs
import Derived.Test.YtjkgkmmkehnggaaGreatDoorYa1
set_option maxHeartbeats 16000000
namespace Go.Proofs.YtjkgkmmkehnggaaGreatDoor
set_option linter.unusedVariables false
set_option linter.unusedSimpArgs false
set_option maxRecDepth 20000
structure RInv (P:List It) (rows:List En) (ts:List ByteArray):Prop where
 good:GoodP ts
 len:ts.length≤P.length
 mem:∀ s,s ∈ ts↔∃ t ∈ P,t.2=s
 ok:∀ e ∈ rows,OkE e ts
 row:xcX (-1) rows=0
 exp:xh1 rows (xb7 ts)=P
 one:xhj rows
 few:rows.length≤P.length
 last:∀ r a,rows=r++[a]→∃ P' t,P=P'++[t]∧laN a=(t.1:Int)
theorem xuK:RInv [] [] []:=⟨xkg,Nat.le_refl _,by simp,by simp,rfl,rfl,xkf,Nat.le_refl _,fun r a h=>by simp at h⟩
theorem xyw {e:En} (h:ckN e=0) (hr:1≤e.rn):laN e=e.id+e.rn - 1:=by
 unfold laN wdN
 rw[if_pos h,if_neg (by omega)]
theorem xgy (r:List En) (e:En) (p:Int) (h:xcX p r=0) (hck:ckN e=0) (hp:(r.foldl (fun _ e=>laN e) p)<e.id):xcX p (r++[e])=0:=by
 rw[xbO p r [e] h,xcX,if_neg (by simpa using hck),if_neg (by omega)]
 rfl
theorem xif (r:List En) (e:En) (p:Int) (h:xcX p (r++[e])=0):xcX p r=0∧ckN e=0∧(r.foldl (fun _ e=>laN e) p)<e.id:=by
 have h1:=xeu p r [e] h
 rw[xbO p r [e] h1] at h
 obtain⟨h2,h3,_⟩:=xbZ _ e [] h
 exact⟨h1,h2,h3⟩
theorem xrJ (r:List En) (a:En) (p:Int):(r++[a]).foldl (fun _ e=>laN e) p=laN a:=by simp
theorem xtj {P:List It} {rows:List En} {ts:List ByteArray} (h:RInv P rows ts) (t:It) (hr:∀ u ∈ P,u.1<t.1) (hlow:t.1<6004799503160661) (h0:0<t.2.size) (h1:t.2.size≤65536) (hf:P.length<2048) :
  RInv (P++[t]) (xqM (rows,ts) t).1 (xqM (rows,ts) t).2:=by
 have hl:ts.length<2048:=Nat.lt_of_le_of_lt h.len hf
 obtain⟨hlen,hfind⟩:=xkl h0 h1 hl
 have hgood:=h.good.add t.2
 have hnl:=xuV ts t.2
 have hmem:∀ s,s ∈ xcp ts t.2↔∃ u ∈ P++[t],u.2=s:=by
  intro s
  rw[xvV ts t.2 s h0 h1 hl,h.mem]
  constructor
  ·rintro(⟨u,hu,he⟩|rfl)
   ·exact⟨u,by simp[hu],he⟩
   ·exact⟨t,by simp,rfl⟩
  ·rintro⟨u,hu,he⟩
   rcases List.mem_append.1 hu with hu|hu
   ·exact .inl ⟨u,hu,he⟩
   ·rw[List.mem_singleton.1 hu] at he
    exact .inr he.symm
 have hexp:xh1 rows (xb7 (xcp ts t.2))=P:=by rw[xvy h.ok,h.exp]
 have hok:∀ e ∈ rows,OkE e (xcp ts t.2):=fun e he=>((h.ok e he).grow t.2).1
 have hle:=xev _ _ _ _ hfind
 have htot:=hgood.tot
 obtain⟨e1,he1⟩:∃ e1,xCj ts t=e1:=⟨_,rfl⟩
 have d1:e1.id=(t.1:Int):=by rw[← he1];rfl
 have d2:e1.off=(offA ts t.2:Int):=by rw[← he1];rfl
 have d3:e1.ln=(t.2.size:Int):=by rw[← he1];show ((lenA ts t.2:Nat):Int)=_;rw[hlen]
 have d4:e1.rn=1:=by rw[← he1];rfl
 have dck:ckN e1=0:=by
  unfold ckN cnN wdN
  rw[if_neg (by omega),if_neg (by rw[if_neg (by omega)];omega),if_neg (by omega)]
 have dla:laN e1=(t.1:Int):=by rw[xyw dck (by omega)];omega
 have dok:OkE e1 (xcp ts t.2):=⟨by unfold xa1;omega,dck,by omega,t.2,by rw[hfind,d2,Int.toNat_natCast],d3⟩
 have dtx:txN e1 (xb7 (xcp ts t.2))=t.2:=xgK (by rw[hfind,d2,Int.toNat_natCast]) d3
 have drun:xjg e1 (xb7 (xcp ts t.2))=[t]:=by
  unfold xjg
  rw[d4,dtx,d1]
  show (List.range 1).map _=_
  simp
 show RInv (P++[t]) (xxv rows (xCj ts t)) (xcp ts t.2)
 rw[he1]
 rcases List.eq_nil_or_concat rows with rfl|⟨r,a,rfl⟩
 ·have hP:P=[]:=by rw[← h.exp];rfl
  subst hP
  rw[xwp]
  refine⟨hgood,by have h2:=h.len;simp only[List.length_nil,List.nil_append,List.length_singleton] at h2 ⊢;omega,hmem,by simpa using dok,?_,?_,?_,by simp,?_⟩
  ·exact xgy [] e1 (-1) rfl dck (by simp;omega)
  ·rw[xfa,drun];rfl
  ·exact xfw xkf (fun r a h=>by simp at h)
  ·intro r a h
   obtain⟨_,rfl⟩:=List.append_inj' (show []++[e1]=r++[a] by simpa using h) rfl |>.imp id (fun h=>by simpa using h)
   exact⟨[],t,rfl,dla⟩
 ·rw[List.concat_eq_append] at *
  obtain⟨P',t0,hP,hla⟩:=h.last r a rfl
  have ha:=h.ok a (by simp)
  obtain⟨hrow,hcka,hpa⟩:=xif r a (-1) h.row
  have hlt:t0.1<t.1:=hr t0 (by rw[hP];simp)
  have hlaa:=xyw ha.ck ha.run
  have hrun:=ha.run
  have hmay:=ha.may
  have hrn:a.rn.toNat≤P.length:=by
   have:=congrArg List.length h.exp
   rw[xcl,xfa,List.length_append,xis] at this
   omega
  rw[xd9]
  by_cases hone:xn0 a e1=true
  ·rw[if_pos hone]
   have hone':=of_decide_eq_true hone
   obtain⟨o1,o2,o3⟩:=hone'
   obtain⟨a2,ha2⟩:∃ a2:En,a2={ a with rn:=a.rn+1 }:=⟨_,rfl⟩
   have b1:a2.id=a.id:=by rw[ha2]
   have b2:a2.off=a.off:=by rw[ha2]
   have b3:a2.ln=a.ln:=by rw[ha2]
   have b4:a2.rn=a.rn+1:=by rw[ha2]
   rw[← ha2]
   clear ha2
   have hck:=xhl a ha.ck
   have hck2:ckN a2=0:=by
    unfold ckN cnN wdN
    rw[if_neg (by omega),if_neg (by rw[if_neg (by omega)];omega),if_neg (by omega)]
   have hla2:laN a2=(t.1:Int):=by rw[xyw hck2 (by omega)];omega
   have haok:=hok a (by simp)
   have hok2:OkE a2 (xcp ts t.2):=by
    obtain⟨s,f1,f2⟩:=haok.txt
    unfold xa1 at hmay
    exact⟨by unfold xa1;omega,hck2,by omega,s,by rw[b2];exact f1,by rw[b3];exact f2⟩
   have htx2:txN a (xb7 (xcp ts t.2))=t.2:=by
    have hx:txN a (xb7 (xcp ts t.2))=txN e1 (xb7 (xcp ts t.2)):=by unfold txN;rw[o2,o3]
    rw[hx]
    exact dtx
   have hrun2:xjg a2 (xb7 (xcp ts t.2))=xjg a (xb7 (xcp ts t.2))++[t]:=by
    have hx:txN a2 (xb7 (xcp ts t.2))=t.2:=by
     have hy:txN a2 (xb7 (xcp ts t.2))=txN a (xb7 (xcp ts t.2)):=by unfold txN;rw[b2,b3]
     rw[hy]
     exact htx2
    unfold xjg
    rw[hx,htx2,b4,b1,show (a.rn+1).toNat=a.rn.toNat+1 by omega,List.range_succ,List.map_append]
    congr 1
    simp only[List.map_cons,List.map_nil]
    congr 1
    refine Prod.ext ?_ rfl
    show a.id.toNat+a.rn.toNat=t.1
    unfold xa1 at hmay
    omega
   refine⟨hgood,?_,hmem,?_,?_,?_,?_,?_,?_⟩
   ·rw[List.length_append,List.length_singleton];have:=h.len;omega
   ·intro e he
    rcases List.mem_append.1 he with he|he
    ·exact hok e (by simp[he])
    ·rw[List.mem_singleton.1 he];exact hok2
   ·exact xgy r a2 (-1) hrow hck2 (by rw[b1];exact hpa)
   ·rw[xcl,xfa] at hexp ⊢
    rw[hrun2,← List.append_assoc,hexp]
   ·exact xoo h.one ⟨b1,b2,b3⟩
   ·have:=h.few
    simp at this ⊢
    omega
   ·intro r' x hx
    obtain⟨_,hx2⟩:=List.append_inj' hx rfl
    simp at hx2
    subst hx2
    exact⟨P,t,rfl,hla2⟩
  ·have hone':xn0 a e1=false:=by simpa using hone
   rw[if_neg hone]
   refine⟨hgood,?_,hmem,?_,?_,?_,?_,?_,?_⟩
   ·rw[List.length_append,List.length_singleton];have:=h.len;omega
   ·intro e he
    rcases List.mem_append.1 he with he|he
    ·exact hok e he
    ·rw[List.mem_singleton.1 he];exact dok
   ·exact xgy (r++[a]) e1 (-1) h.row dck (by rw[xrJ];omega)
   ·rw[xcl,hexp,xfa,drun]
   ·refine xfw h.one (fun r' x hx=>?_)
    obtain⟨_,hx2⟩:=List.append_inj' hx rfl
    simp at hx2
    subst hx2
    exact hone'
   ·have:=h.few
    simp at this ⊢
    omega
   ·intro r' x hx
    obtain⟨_,hx2⟩:=List.append_inj' hx rfl
    simp at hx2
    subst hx2
    exact⟨P,t,rfl,dla⟩
theorem xgE {L:List It} (hg:GoodC L):∀ k,k≤L.length→RInv (L.take k) (xad (L.take k)).1 (xad (L.take k)).2:=by
 intro k
 induction k with
 | zero=>intro _;exact xuK
 | succ k ih =>
  intro hk
  obtain⟨t,ht⟩:∃ t,L[k]?=some t:=⟨_,List.getElem?_eq_getElem (by omega)⟩
  have hm:=List.mem_of_getElem? ht
  rw[xfu L k t ht,xez L k t ht]
  refine xtj (ih (by omega)) t (fun u hu=>?_) (hg.low t hm) (hg.pos t hm) (hg.short t hm) (by rw[List.length_take];have:=hg.few;omega)
  obtain⟨j,hj⟩:=List.mem_iff_getElem?.1 hu
  rw[List.getElem?_take] at hj
  split at hj
  ·rename_i hjk
   obtain⟨h1,rfl⟩:=List.getElem?_eq_some_iff.1 hj
   obtain⟨h2,rfl⟩:=List.getElem?_eq_some_iff.1 ht
   exact List.pairwise_iff_getElem.1 hg.rise j k h1 h2 hjk
  ·cases hj
theorem xcA {L:List It} (hg:GoodC L):RInv L (xad L).1 (xad L).2:=by
 have h:=xgE hg L.length (Nat.le_refl _)
 rwa[List.take_length] at h
def xsa:List En→ByteArray→List It→Int→List It × Int
 | [],_,out,_=>(out,0)
 | e :: l,d,out,m =>
  if e.rn=0 then ([],14) else if (d.size:Int)<e.off+e.ln then ([],8) else if 2048<m+e.rn then ([],21) else if 65536<e.ln then ([],5)
  else xsa l d (out++xjg e d) (m+e.rn)
def xyb (l:List En) (d:ByteArray):List It × Int:=if xa2 l≠0 then ([],xa2 l) else xsa l d [] 0
structure TellE (e:En) (d:ByteArray):Prop where
 run:e.rn≠0
 inn:e.off+e.ln≤(d.size:Int)
 short:e.ln≤65536
theorem xmJ:∀ (l:List En) (d:ByteArray) (out:List It) (m:Int),(∀ e ∈ l,TellE e d)→(∀ e ∈ l,0≤e.rn)→m+((l.map (·.rn)).sum)≤2048→xsa l d out m=(out++xh1 l d,0)
 | [],d,out,m,_,_,_=>by simp[xsa,xh1]
 | e :: l,d,out,m,h,hr,hs=>by
  have he:=h e (by simp)
  have hsum:0≤(l.map (·.rn)).sum:=by
   have key:∀ l:List En,(∀ e ∈ l,0≤e.rn)→0≤(l.map (·.rn)).sum:=by
    intro l
    induction l with
    | nil=>intro _;simp
    | cons x l ih=>intro hx;rw[List.map_cons,List.sum_cons];have:=ih (fun e he=>hx e (by simp[he]));have:=hx x (by simp);omega
   exact key l (fun x hx=>hr x (by simp[hx]))
  rw[List.map_cons,List.sum_cons] at hs
  rw[xsa,if_neg he.run,if_neg (by have:=he.inn;omega),if_neg (by omega),if_neg (by have:=he.short;omega),xmJ l d _ _ (fun x hx=>h x (by simp[hx])) (fun x hx=>hr x (by simp[hx])) (by omega)]
  rw[List.append_assoc]
  rfl
theorem xyO (l:List En) (d:ByteArray) (h:∀ e ∈ l,0≤e.rn):((xh1 l d).length:Int)=(l.map (·.rn)).sum:=by
 induction l with
 | nil=>rfl
 | cons e l ih =>
  have h1:=ih (fun x hx=>h x (by simp[hx]))
  have h2:=h e (by simp)
  unfold xh1 at h1 ⊢
  rw[List.flatMap_cons,List.length_append,List.map_cons,List.sum_cons,xis]
  omega
theorem xzW (l:List En) (h:∀ e ∈ l,ckN e=0):xlW l=(l.map (·.rn)).sum:=by
 unfold xlW
 congr 1
 refine List.map_congr_left (fun e he=>?_)
 rw[if_pos (h e he)]
theorem xdF {L:List It} (hg:GoodC L):xyb (xad L).1 (xb7 (xad L).2)=(L,0)∧xa2 (xad L).1=0∧xhj (xad L).1∧xlW (xad L).1=(L.length:Int)∧(xad L).1.length≤L.length∧(∀ e ∈ (xad L).1,OkE e (xad L).2)∧GoodP (xad L).2:=by
 have h:=xcA hg
 have hr:∀ e ∈ (xad L).1,0≤e.rn:=fun e he=>by have:=(h.ok e he).run;omega
 have hs:=xyO (xad L).1 (xb7 (xad L).2) hr
 rw[h.exp] at hs
 have hf:=hg.few
 have hrow:xa2 (xad L).1=0:=by
  unfold xa2
  rw[if_neg (by have:=h.few;omega)]
  exact h.row
 refine⟨?_,hrow,h.one,?_,h.few,h.ok,h.good⟩
 ·unfold xyb
  rw[if_neg (by simp[hrow]),xmJ _ _ _ _ (fun e he=>?_) hr (by omega),h.exp]
  ·rfl
  ·have ho:=h.ok e he
   obtain⟨s,f1,f2⟩:=ho.txt
   have h1:=xev _ _ _ _ f1
   have h2:=h.good.short s ((xbV s _ 0).1 (by rw[f1];rfl))
   have h3:=ho.may
   have h4:=ho.run
   unfold xa1 at h3
   exact⟨by omega,by rw[xdB];omega,by omega⟩
 ·rw[xzW _ (fun e he=>(h.ok e he).ck),hs]
theorem xvu {L:List It} (hg:GoodC L) (s:ByteArray) (hs:s ∈ (xad L).2):∃ e ∈ (xad L).1,xaK s (xad L).2 0=some e.off.toNat∧e.ln=(s.size:Int):=by
 have h:=xcA hg
 obtain⟨t,ht,rfl⟩:=(h.mem s).1 hs
 rw[← h.exp] at ht
 unfold xh1 at ht
 obtain⟨e,he,hte⟩:=List.mem_flatMap.1 ht
 obtain⟨k,hk,rfl⟩:=(xmD e _ t).1 hte
 obtain⟨s,f1,f2⟩:=(h.ok e he).txt
 have:=xgK f1 f2
 refine⟨e,he,?_,?_⟩
 ·show xaK (txN e _) _ 0=_
  rw[this];exact f1
 ·show _=((txN e _).size:Int)
  rw[this];exact f2
end Go.Proofs.YtjkgkmmkehnggaaGreatDoor
namespace Go.Proofs.YtjkgkmmkehnggaaGreatDoor
set_option linter.unusedVariables false
set_option linter.unusedSimpArgs false
def xxI (s b:Nat):Nat:=(s ^^^ b)*1099511628211 % 18446744073709551616
def xhk (x:Nat) (l:List UInt8):Nat:=l.foldl (fun x c=>xxI x c.toNat) x
def fSt:Nat:=14695981039346656037
def xzU (s:Nat) (n:Int):Int:=if n<1 then 0 else (s:Int) % n
theorem xzs (s b:Nat):xxI s b<18446744073709551616:=Nat.mod_lt _ (by decide)
theorem xtg (x:Nat) (l:List UInt8) (c:UInt8):xhk x (c :: l)=xhk (xxI x c.toNat) l:=by
 unfold xhk;rw[List.foldl_cons]
theorem xm0 (x:Nat):xhk x []=x:=by
 unfold xhk;rw[List.foldl_nil]
theorem xrX (l:List UInt8):∀ x,x<18446744073709551616→xhk x l<18446744073709551616:=by
 induction l with
 | nil=>intro x h;rw[xm0];exact h
 | cons c l ih=>intro x _;rw[xtg];exact ih _ (xzs _ _)
theorem xte (x:Nat) (a:List UInt8) (c:UInt8):xhk x (a++[c])=xxI (xhk x a) c.toNat:=by
 unfold xhk;rw[List.foldl_append,List.foldl_cons,List.foldl_nil]
theorem xBJ (s b:Nat) (hs:s<18446744073709551616) (hb:b<18446744073709551616):s ^^^ b<18446744073709551616:=by
 have:=Nat.xor_lt_two_pow (n:=64) (x:=s) (y:=b) (by omega) (by omega)
 omega
abbrev Kt:=Nat × ByteArray
def plc:List ByteArray→Nat→List Kt
 | [],_=>[]
 | t :: l,n=>(n,t) :: plc l (n+t.size)
def bkt (s:ByteArray):Int:=xzU (xhk fSt s.data.toList) 2048
theorem xkt (s:ByteArray):0≤bkt s∧bkt s<2048:=by
 unfold bkt xzU
 rw[if_neg (by omega)]
 omega
def grp (k:Int) (l:List Kt):List Kt:=l.filter (fun t=>decide (bkt t.2=k))
theorem xdy (l:List ByteArray):∀ n,(plc l n).length=l.length:=by
 induction l with
 | nil=>intro n;rfl
 | cons t l ih=>intro n;simp[plc,ih]
theorem xpa (a b:List ByteArray):∀ n,plc (a++b) n=plc a n++plc b (n+totF a):=by
 induction a with
 | nil=>intro n;simp[plc,totF]
 | cons t l ih=>intro n;simp[plc,ih,totF,Nat.add_assoc]
theorem xiz (l:List ByteArray) (s:ByteArray):plc (l++[s]) 0=plc l 0++[(totF l,s)]:=by
 rw[xpa];simp[plc]
theorem xBI (l:List ByteArray):∀ (n k:Nat) (t:ByteArray),l[k]?=some t→(plc l n)[k]?=some (n+totF (l.take k),t):=by
 induction l with
 | nil=>intro n k t h;simp at h
 | cons x l ih =>
  intro n k t h
  cases k with
  | zero=>simp at h;subst h;simp[plc,totF]
  | succ k=>rw[plc,List.getElem?_cons_succ,ih _ k t (by simpa using h)];simp[totF,Nat.add_assoc]
theorem xpJ (k:Int) (a b:List Kt):grp k (a++b)=grp k a++grp k b:=by simp[grp]
theorem xzC (k:Int) (t:Kt):grp k [t]=if bkt t.2=k then [t] else []:=by
 unfold grp
 by_cases h:bkt t.2=k <;> simp[h]
theorem xq1 (k:Int) (l:List Kt):(grp k l).length≤l.length:=List.length_filter_le _ _
theorem xnY (s:ByteArray) (l:List ByteArray):∀ n,((grp (bkt s) (plc l n)).find? (fun t=>decide (t.2=s))).map (·.1)=xaK s l n:=by
 induction l with
 | nil=>intro n;rfl
 | cons t l ih =>
  intro n
  rw[plc,xaK]
  by_cases h:t=s
  ·subst h
   rw[if_pos rfl]
   simp[grp]
  ·rw[if_neg h,← ih]
   unfold grp
   by_cases hb:bkt t=bkt s
   ·rw[List.filter_cons_of_pos (by simpa using hb),List.find?_cons_of_neg (by simpa using h)]
   ·rw[List.filter_cons_of_neg (by simpa using hb)]
theorem xoi (p:Kt→Bool) (l:List Kt) (i:Nat) (t:Kt) (hi:l[i]?=some t) (hp:p t=true) (hn:∀ x ∈ l.take i,p x=false):l.find? p=some t:=by
 have e:l=l.take i++t :: l.drop (i+1):=by rw[← xsv l i t hi,List.take_append_drop]
 rw[e,List.find?_append]
 have h0:(l.take i).find? p=none:=by rw[List.find?_eq_none];intro x hx;rw[hn x hx];simp
 rw[h0]
 simp[hp]
theorem xzK (p:Kt→Bool) (l:List Kt) (hn:∀ x ∈ l,p x=false):l.find? p=none:=by
 rw[List.find?_eq_none];intro x hx;rw[hn x hx];simp
end Go.Proofs.YtjkgkmmkehnggaaGreatDoor
namespace Go.Proofs.YtjkgkmmkehnggaaGreatDoor
set_option linter.unusedVariables false
set_option linter.unusedSimpArgs false
open Go.RowKit
set_option maxRecDepth 20000
def xCE (o:Option ByteArray):ByteArray:=o.getD { data:=#[] }
theorem xsI (id:Nat) (l:List It) (k:Nat) (t:It) (h:l[k]?=some t):xb9 id (l.drop k)=if t.1=id then some t.2 else xb9 id (l.drop (k+1)):=by
 rw[xeP l k t h,xb9]
theorem xji (v:Value) (l:List It) (id:Nat) (w:World) (hv:ItsAt w v l) :
  Calls Tryz.prog 64 #[v,.int .u64 id] w fun e w'=>e=.returned (.tuple #[.string (xCE (xb9 id l)),.bool (xb9 id l).isSome])∧w'=w:=by
 obtain⟨al,cap,rfl,hcap,hmx,hc⟩:=hv
 have HC:=lH hc
 have hmx':l.length≤maxLen:=by omega
 unfold maxLen at hmx'
 clear hc
 go_enter Tryz.func64,Tryz.ntmps64
 go_wp2_with fail
 go_loop [6] (fun i=>∃ k:Nat,k≤l.length∧i=.int .i64 k∧xb9 id l=xb9 id (l.drop k)) (fun i=>l.length - (intOf i).toNat)
 case atStart=>exact⟨0,Nat.zero_le _,rfl,by simp⟩
 case round =>
  obtain⟨k,hk,rfl,hf⟩:=hrel
  by_cases hlt:k<l.length
  ·obtain⟨⟨x,s⟩,htk⟩:∃ t,l[k]?=some t:=⟨_,List.getElem?_eq_getElem hlt⟩
   obtain⟨g,off,rfl,hg,c0,c1⟩:=HC.out k _ htk
   rw[xsI id l k _ htk] at hf
   by_cases he:x=id
   ·rw[if_pos he] at hf
    have HF:=lH hf
    clear hf
    subst he
    go_wp2_with fail
    refine bodyPost_ret (results_tmp2 rfl _ _ _) rfl ⟨?_,rfl⟩
    rw[HF.out];rfl
   ·rw[if_neg he] at hf
    have HF:=lH hf
    clear hf
    have hne:((x:Int) == (id:Int))=false:=by rw[beq_eq_false_iff_ne];omega
    go_wp2_with fail
    go_round
    case rel=>exact⟨k+1,by omega,by go_num,HF.out⟩
    case measure=>simp[intOf];omega
  ·obtain rfl:k=l.length:=by omega
   rw[List.drop_length,xb9] at hf
   have HF:=lH hf
   clear hf
   go_wp2_with fail
   refine bodyPost_ret (results_tmp2 rfl _ _ _) rfl ⟨?_,rfl⟩
   rw[HF.out];rfl
def xj4 (l:List It) (m M:Int):Bool:=decide (M<xar l) || decide (m<(l.length:Int))
theorem xub (v:Value) (l:List It) (m M:Int) (w:World) (hv:ItsAt w v l) (hsz:∀ t ∈ l,t.2.size≤maxLen) (hM0:0≤M) (hM1:M≤1000000) :
  Calls Tryz.prog 10 #[v,.int .i64 m,.int .i64 M] w fun e w'=>e=.returned (.bool (xj4 l m M))∧w'=w:=by
 obtain⟨al,cap,rfl,hcap,hmx,hc⟩:=hv
 have HC:=lH hc
 have hmx':l.length≤maxLen:=by omega
 unfold maxLen at hmx'
 clear hc
 go_enter Tryz.func10,Tryz.ntmps10
 go_wp2_with fail
 go_loop [2,7] (fun n i=>∃ k:Nat,k≤l.length∧i=.int .i64 k∧n=.int .i64 (M - (xar (l.take k):Int))∧(xar (l.take k):Int)≤M) (fun _ i=>l.length - (intOf i).toNat)
 case atStart=>exact⟨0,Nat.zero_le _,rfl,by simp[xar],by simp[xar];exact hM0⟩
 case round =>
  obtain⟨k,hk,rfl,rfl,hle⟩:=hrel
  by_cases hlt:k<l.length
  ·obtain⟨⟨x,s⟩,htk⟩:∃ t,l[k]?=some t:=⟨_,List.getElem?_eq_getElem hlt⟩
   obtain⟨g,off,rfl,hg,c0,c1⟩:=HC.out k _ htk
   have hts:=hsz _ (List.mem_of_getElem? htk)
   have h1:=xlG l k _ htk
   have h2:=xlX l (k+1)
   have HS:=lH h1
   simp only at HS h1 hts
   unfold maxLen at hts
   generalize xar (l.take k)=q at *
   have hw:IntKind.i64.wrap (M - (q:Int) - (s.size:Int))=M - (q:Int) - (s.size:Int):=by rw[IntKind.wrap_i64] <;> omega
   by_cases hn:M - (q:Int) - (s.size:Int)<0
   ·have HO:=lH (show xj4 l m M=true by unfold xj4;rw[Bool.or_eq_true,decide_eq_true_eq];left;omega)
    go_wp2_with fail
    go_ret
    exact⟨by rw[HO.out];rfl,rfl⟩
   ·go_wp2_with fail
    go_round
    case rel=>exact⟨k+1,by omega,by go_num,by rw[HS.out];go_num,by rw[HS.out];omega⟩
    case measure=>simp[intOf];omega
  ·obtain rfl:k=l.length:=by omega
   rw[List.take_length] at hle ⊢
   have HO:=lH (show xj4 l m M=decide (m<(l.length:Int)) by unfold xj4;rw[decide_eq_false (by omega),Bool.false_or])
   go_wp2_with fail
   go_ret
   exact⟨by rw[HO.out];rfl,rfl⟩
def xBN (E:TypeId) (l:List It) (w:World) (e:Ending) (w':World):Prop:=∃ v,e=.returned v∧xa3 w' w.heap.size E v l∧Below w.heap.size w w'
theorem xuS (v:Value) (l:List It) (id:Nat) (w:World) (hv:ItsAt w v l) (hl:l.length≤100000) :
  Calls Tryz.prog 65 #[v,.int .u64 id] w (xBN 79 (xdt id l) w):=by
 obtain⟨al,cap,rfl,hcap,hmx,hc⟩:=hv
 have HC:=lH hc
 have hmx':l.length≤maxLen:=by omega
 unfold maxLen at hmx'
 clear hc
 go_enter Tryz.func65,Tryz.ntmps65
 go_wp2_with fail
 go_loopw [5,6] (fun u i wr=>∃ k:Nat,k≤l.length∧i=.int .i64 k∧xa3 wr w.heap.size 79 u (xdt id (l.take k))∧Below w.heap.size w wr) (fun _ i _=>l.length - (intOf i).toNat)
 case atStart=>exact⟨0,Nat.zero_le _,rfl,xfc _ _ _,Below.refl _ _⟩
 case round =>
  obtain⟨k,hk,rfl,hown,hbw⟩:=hrel
  by_cases hlt:k<l.length
  ·obtain⟨⟨x,s⟩,htk⟩:∃ t,l[k]?=some t:=⟨_,List.getElem?_eq_getElem hlt⟩
   obtain⟨g,off,rfl,hg,c0,c1⟩:=HC.out k _ htk
   have HS:=lH (xtm id l k _ htk)
   have hlen:=xe1 id (l.take k)
   rw[List.length_take] at hlen
   have d0:=(hbw.cell (p:=⟨g,off+k*2,none⟩) hg).trans c0
   have d1:=(hbw.cell (p:=⟨g,off+k*2+1,none⟩) hg).trans c1
   have d2:=Nat.lt_of_lt_of_le hg hbw.size
   by_cases he:x=id
   ·have HO:=lH hown
    have HB:=lH hbw
    clear hown hbw
    have hs:xdt id (l.take (k+1))=xdt id (l.take k):=by rw[HS.out,if_pos he]
    have HS2:=lH hs
    clear hs HS c0 c1
    subst he
    go_wp2_with fail
    go_roundw
    case rel=>exact⟨k+1,by omega,by go_num,by rw[HS2.out];exact HO.out,HB.out⟩
    case measure=>simp[intOf];omega
   ·have hs:xdt id (l.take (k+1))=xdt id (l.take k)++[(x,s)]:=by rw[HS.out,if_neg he]
    have HS2:=lH hs
    have hne:((x:Int) != (id:Int))=true:=by simp;omega
    have hb2:Below w.heap.size w (wr.alloc (.cells #[.int .u64 x,.string s] 79)):=hbw.alloc hbw.size _
    obtain⟨v',w',hr,hown',hgr⟩:=xaD (wr.alloc (.cells #[.int .u64 x,.string s] 79)) w.heap.size 26 79 26 _ Tryz.underlying26 xe5 rfl _ _ _ [(x,s)] (hown.below (Below.alloc (Below.refl _ _) (Nat.le_refl _) _)) (xmC wr x s _) (by simp;omega) hb2.size
    have HO:=lH hown'
    have HB:=lH (Below.grown hb2 hgr hb2.size (fun k hk=>(hown.lt k hk).1))
    clear hown hbw hs HS c0 c1 hb2 hown' hgr
    go_wp2_with (first|(at_builtin;refine Lib.wpList_append_run _ rfl _ _ _ _ rfl _ _ rfl rfl _ _ hr ?_)|fail)
    go_roundw
    case rel=>exact⟨k+1,by omega,by go_num,by rw[HS2.out];exact HO.out,HB.out⟩
    case measure=>simp[intOf];omega
  ·obtain rfl:k=l.length:=by omega
   rw[List.take_length] at hown
   go_wp2_with fail
   go_ret
   exact⟨_,rfl,hown,hbw⟩
theorem xf5 (id:Nat) (r:List It):r.take (xhh id r).length=xhh id r:=by
 conv=>lhs;arg 2;rw[← xc8 id r]
 exact List.take_left
theorem xiX (id:Nat) (r:List It):r.drop (xhh id r).length=xid id r:=by
 conv=>lhs;arg 2;rw[← xc8 id r]
 exact List.drop_left
theorem xxs (id:Nat) (r:List It):(xhh id r).length≤r.length:=by
 have:=congrArg List.length (xc8 id r)
 rw[List.length_append] at this
 omega
theorem xxC (id:Nat) (r:List It):∀ k,k<(xhh id r).length→∃ t,r[k]?=some t∧t.1<id:=by
 induction r with
 | nil=>intro k h;simp[xhh] at h
 | cons x r ih =>
  intro k h
  unfold xhh at h
  rw[List.takeWhile_cons] at h
  by_cases hx:x.1<id
  ·rw[if_pos (by simpa using hx)] at h
   cases k with
   | zero=>exact⟨x,rfl,hx⟩
   | succ k=>exact ih k (by simpa[xhh] using h)
  ·rw[if_neg (by simpa using hx)] at h
   simp at h
theorem xsM (id:Nat) (r:List It):∀ t,r[(xhh id r).length]?=some t→¬ t.1<id:=by
 induction r with
 | nil=>intro t h;simp at h
 | cons x r ih =>
  intro t h
  unfold xhh at h
  rw[List.takeWhile_cons] at h
  by_cases hx:x.1<id
  ·rw[if_pos (by simpa using hx)] at h
   exact ih t (by simpa[xhh] using h)
  ·rw[if_neg (by simpa using hx)] at h
   simp at h
   subst h
   exact hx
theorem xa3.form {w:World} {B:Nat} {E:TypeId} {v:Value} {l:List It} (h:xa3 w B E v l) :
  (v=.slice none 0 0∧l=[])∨∃ g cap,v=.slice (some ⟨g,0,none⟩) l.length cap∧B≤g∧g<w.heap.size∧l.length≤cap∧cap≤maxLen∧(∀ k t,l[k]?=some t→w.cell? ⟨g,k*2,none⟩=some (.int .u64 t.1)∧w.cell? ⟨g,k*2+1,none⟩=some (.string t.2)):=by
 have hlt:=h.lt
 have h':=h
 obtain⟨h1,h2⟩:=h
 rcases h2 with ⟨rfl,hn⟩|⟨g,cap,cur,rfl,hg,hh,hle,hm,_⟩
 ·exact .inl ⟨rfl,List.eq_nil_of_length_eq_zero hn⟩
 ·refine .inr ⟨g,cap,rfl,hg,(hlt g rfl).2,hle,hm,fun k t ht=>?_⟩
  have hk:=(List.getElem?_eq_some_iff.1 ht).1
  obtain⟨f0,f1⟩:=xga l k t ht
  exact⟨(World.ownsRow.cellAt h' (k*2) (by omega)).trans f0,(World.ownsRow.cellAt h' (k*2+1) (by omega)).trans f1⟩
theorem xzB {w:World} {g cap:Nat} {l:List It} (k:Nat) (hk:k≤l.length) (hg:g<w.heap.size) (h1:l.length≤cap) (h2:cap≤maxLen) (hc:∀ k t,l[k]?=some t→w.cell? ⟨g,k*2,none⟩=some (.int .u64 t.1)∧w.cell? ⟨g,k*2+1,none⟩=some (.string t.2)):ItsAt w (.slice (some ⟨g,0,none⟩) k cap) (l.take k):=by
 have e:(l.take k).length=k:=by rw[List.length_take];omega
 refine⟨_,cap,by rw[e],by omega,h2,fun j t ht=>⟨g,0,rfl,hg,?_⟩⟩
 have hj:j<k:=by have:=(List.getElem?_eq_some_iff.1 ht).1;omega
 rw[List.getElem?_take,if_pos hj] at ht
 rw[Nat.zero_add]
 exact hc j t ht
theorem xuc {w:World} {g cap:Nat} {l:List It} (k:Nat) (hk:k≤l.length) (hg:g<w.heap.size) (h1:l.length≤cap) (h2:cap≤maxLen) (hc:∀ k t,l[k]?=some t→w.cell? ⟨g,k*2,none⟩=some (.int .u64 t.1)∧w.cell? ⟨g,k*2+1,none⟩=some (.string t.2)):ItsAt w (.slice (some ⟨g,k*2,none⟩) (l.length - k) (cap - k)) (l.drop k):=by
 refine⟨_,cap - k,by rw[List.length_drop],by rw[List.length_drop];omega,by omega,fun j t ht=>⟨g,k*2,rfl,hg,?_⟩⟩
 rw[List.getElem?_drop] at ht
 have:=hc (k+j) t ht
 rw[show k*2+j*2=(k+j)*2 by omega]
 exact this
theorem xwS {w:World} {a:Option Addr} {l:List It} (k:Nat) (hk:l.length≤k):ItsAt w (.slice a (l.length - k) 0) (l.drop k):=by
 have:l.drop k=[]:=List.drop_of_length_le hk
 rw[this]
 exact⟨a,0,by rw[show l.length - k=0 by omega];rfl,by simp,by simp,fun j t ht=>by simp at ht⟩
theorem xa3.slice {w:World} {B:Nat} {E:TypeId} {v:Value} {l:List It} (h:xa3 w B E v l):∃ a cap,v=.slice a l.length cap:=by
 rcases h.form with ⟨rfl,rfl⟩|⟨g,cap,rfl,_⟩
 ·exact⟨none,0,rfl⟩
 ·exact⟨_,cap,rfl⟩
def xi6 (l:List It) (id:Nat) (s:ByteArray) (w:World) (e:Ending) (w':World):Prop :=
 ∃ v',e=.returned (.tuple #[v',.int .i64 (putE l id s:Nat)])∧ItsAt w' v' (xdi l id s)∧Below w.heap.size w w'
theorem xuD (v:Value) (l:List It) (id n:Nat) (s:ByteArray) (w:World) (hv:ItsAt w v l) (hn:putE l id s=n) (h0:n≠0):∀ e,e=Ending.returned (.tuple #[v,.int .i64 (n:Nat)])→xi6 l id s w e w:=by
 rintro e rfl
 refine⟨v,by rw[hn],?_,Below.refl _ _⟩
 unfold xdi
 rw[hn,if_neg h0]
 exact hv
theorem xyc (v:Value) (l:List It) (id:Nat) (s:ByteArray) (w:World) (hv:ItsAt w v l) (hid:id<18446744073709551616) (h:putE l id s≠0):Calls Tryz.prog 26 #[v,.int .u64 id,.string s] w (xi6 l id s w):=by
 have HV:=lH (xuD v l id _ s w hv rfl h)
 have HG:=lH (xji v l id w hv)
 obtain⟨n,hn⟩:∃ n,putE l id s=n:=⟨_,rfl⟩
 rw[hn] at HV h
 unfold putE at hn
 obtain⟨al,cap,rfl,hcap,hmx,hc⟩:=hv
 clear hc
 by_cases h1:6004799503160661≤id
 ·rw[if_pos h1] at hn
  subst hn
  have h1':(6004799503160661:Int)≤(id:Int):=by omega
  go_enter Tryz.func26,Tryz.ntmps26
  go_wp2_with fail
  exact bodyPost_ret (results_tmp2 rfl _ _ _) rfl (HV.out _ rfl)
 ·rw[if_neg h1] at hn
  have h1':¬ (6004799503160661:Int)≤(id:Int):=by omega
  by_cases h2:s.size=0
  ·rw[if_pos h2] at hn
   subst hn
   have h2':((s.size:Int) == 0)=true:=by rw[beq_iff_eq];omega
   go_enter Tryz.func26,Tryz.ntmps26
   go_wp2_with fail
   exact bodyPost_ret (results_tmp2 rfl _ _ _) rfl (HV.out _ rfl)
  ·rw[if_neg h2] at hn
   have h2':((s.size:Int) == 0)=false:=by rw[beq_eq_false_iff_ne];omega
   by_cases h3:65536<s.size
   ·rw[if_pos h3] at hn
    subst hn
    have h3':(65536:Int)<(s.size:Int):=by omega
    go_enter Tryz.func26,Tryz.ntmps26
    go_wp2_with fail
    exact bodyPost_ret (results_tmp2 rfl _ _ _) rfl (HV.out _ rfl)
   ·rw[if_neg h3] at hn
    have h3':¬ (65536:Int)<(s.size:Int):=by omega
    cases hg:xb9 id l with
    | some t=>rw[hg] at hn;simp at hn;exact absurd hn.symm h
    | none =>
     rw[hg] at hn HG
     by_cases h4:2048≤l.length
     ·simp[h4] at hn
      subst hn
      have h4':decide ((2048:Int)≤(l.length:Int))=true:=decide_eq_true (by omega)
      rw[show (none:Option ByteArray).isSome=false from rfl] at HG
      generalize xCE none=gt at *
      go_enter Tryz.func26,Tryz.ntmps26
      go_wp2_with fail
      refine HG.out.mono ?_
      rintro y w1 ⟨rfl,rfl⟩
      go_wp2_with fail
      exact bodyPost_ret (results_tmp2 rfl _ _ _) rfl (HV.out _ rfl)
     ·simp[h4] at hn;exact absurd hn.symm h
set_option maxRecDepth 20000 in
theorem xvg (v:Value) (l:List It) (id:Nat) (s:ByteArray) (w:World) (hv:ItsAt w v l) (hl:l.length≤100000) (h:putE l id s=0):Calls Tryz.prog 26 #[v,.int .u64 id,.string s] w (xi6 l id s w):=by
 have HG:=lH (xji v l id w hv)
 have HD:=lH (xuS v l id w hv hl)
 have hlen:=xe1 id l
 have hE:=h
 have hL:=lH (show xdi l id s=xhg id s l by unfold xdi;rw[if_pos h])
 have E:=lH h
 unfold putE at h
 by_cases h1:6004799503160661≤id
 ·rw[if_pos h1] at h;omega
 rw[if_neg h1] at h
 by_cases h2:s.size=0
 ·rw[if_pos h2] at h;omega
 rw[if_neg h2] at h
 by_cases h3:65536<s.size
 ·rw[if_pos h3] at h;omega
 rw[if_neg h3] at h
 have h1':¬ (6004799503160661:Int)≤(id:Int):=by omega
 have h2':((s.size:Int) == 0)=false:=by rw[beq_eq_false_iff_ne];omega
 have h3':¬ (65536:Int)<(s.size:Int):=by omega
 have h4:((xb9 id l).isSome=true)∨((xb9 id l).isSome=false∧decide ((2048:Int)≤(l.length:Int))=false):=by
  cases hg:xb9 id l with
  | some t=>exact .inl rfl
  | none =>
   refine .inr ⟨rfl,decide_eq_false ?_⟩
   rw[hg] at h
   intro hq
   have:2048≤l.length:=by omega
   simp[this] at h
 obtain⟨al,cap,rfl,hcap,hmx,hc⟩:=hv
 clear hc h hE
 generalize xCE (xb9 id l)=gt at *
 generalize (xb9 id l).isSome=gb at *
 generalize hr:xdt id l=r at *
 go_enter Tryz.func26,Tryz.ntmps26
 go_wp2_with fail
 refine HG.out.mono ?_
 rintro y w1 ⟨rfl,rfl⟩
 rcases h4 with rfl|⟨rfl,h4⟩
 all_goals
  go_wp2_with fail
  refine HD.out.mono ?_
  rintro y w2 ⟨vr,rfl,hown,hb⟩
  rcases hown.form with ⟨rfl,rfl⟩|⟨g,cap2,rfl,hB,hg,hq1,hq2,hcells⟩
  ·obtain⟨v1,w3,hr1,hown1,hgr1⟩:=xaD w2 w2.heap.size 26 79 26 _ Tryz.underlying26 xe5 rfl (.slice none 0 0) (.slice none 0 0) [] [] (xfc _ _ _) (xgH _) (by simp) (Nat.le_refl _)
   have hb1:Below w2.heap.size w2 w3:=Below.grown (Below.refl _ _) hgr1 (Nat.le_refl _) (fun k hk=>by cases hk)
   have hb2:Below w2.heap.size w2 (w3.alloc (.cells #[.int .u64 id,.string s] 79)):=hb1.alloc hb1.size _
   obtain⟨v2,w4,hr2,hown2,hgr2⟩:=xaD (w3.alloc (.cells #[.int .u64 id,.string s] 79)) w2.heap.size 26 79 26 _ Tryz.underlying26 xe5 rfl v1 _ _ [(id,s)] (hown1.below (Below.alloc (Below.refl _ _) (Nat.le_refl _) _)) (xmC w3 id s _) (by simp) hb2.size
   have hb3:Below w2.heap.size w2 w4:=Below.grown hb2 hgr2 hb2.size (fun k hk=>(hown1.lt k hk).1)
   obtain⟨v3,w5,hr3,hown3,hgr3⟩:=xaD w4 w2.heap.size 26 79 26 _ Tryz.underlying26 xe5 rfl v2 (.slice none 0 0) _ [] hown2 (xgH _) (by simp) hb3.size
   have hb4:Below w2.heap.size w2 w5:=Below.grown hb3 hgr3 hb3.size (fun k hk=>(hown2.lt k hk).1)
   have HB:=lH (hb.trans (hb4.mono hb.size))
   have hput:xdi l id s=[]++[]++[(id,s)]++[]:=by
    rw[hL.out]
    unfold xhg
    rw[hr]
    rfl
   have HO:=lH (show ItsAt w5 v3 (xdi l id s) by rw[hput];exact hown3.itsAt)
   obtain⟨a1,cap1,rfl⟩:=hown1.slice
   obtain⟨a2,cap2',rfl⟩:=hown2.slice
   simp only[List.append_nil,List.nil_append,List.length_nil,List.length_singleton] at hr2 hr3
   clear hown1 hown2 hown3 hgr1 hgr2 hgr3 hb1 hb2 hb3 hb4 hb hput hown
   go_wp2_with fail
   go_loop [11] (fun i=>i=.int .i64 0) (fun i=>0)
   case atStart=>rfl
   case round =>
    subst hrel
    go_wp2_with (first|(at_builtin;refine Lib.wpList_append_run _ rfl _ _ _ _ rfl _ _ rfl rfl _ _ hr1 ?_;clear hr1)|(at_builtin;refine Lib.wpList_append_run _ rfl _ _ _ _ rfl _ _ rfl rfl _ _ hr2 ?_;clear hr2)|(at_builtin;refine Lib.wpList_append_run _ rfl _ _ _ _ rfl _ _ rfl rfl _ _ hr3 ?_;clear hr3)|fail)
    refine bodyPost_ret (results_tmp2 rfl _ _ _) rfl ⟨_,?_,HO.out,HB.out⟩
    rw[E.out];rfl
  ·have HC:=lH hcells
   have HLo:=lH (xxC id r)
   have hlo:=xxs id r
   have hLe:=lH (xsM id r)
   generalize hn:(xhh id r).length=n at *
   go_wp2_with fail
   go_loop [11] (fun i=>∃ k:Nat,k≤n∧i=.int .i64 k) (fun i=>n - (intOf i).toNat)
   case atStart=>exact⟨0,Nat.zero_le _,rfl⟩
   case round =>
    obtain⟨k,hk,rfl⟩:=hrel
    by_cases hlt:k<n
    ·obtain⟨⟨x,t⟩,htk,hx⟩:=HLo.out k hlt
     obtain⟨c0,c1⟩:=HC.out k _ htk
     have hkr:(k:Int)<(r.length:Int):=by omega
     have hx':(x:Int)<(id:Int):=by simp only at hx;omega
     go_wp2_with fail
     go_round
     case rel=>exact⟨k+1,by omega,by go_num⟩
     case measure=>simp[intOf];omega
    ·have hkn:k=n:=by omega
     subst hkn
     have hend:((k:Int)<(r.length:Int)∧∃ x t,r[k]?=some (x,t)∧¬ (x:Int)<(id:Int))∨¬ (k:Int)<(r.length:Int):=by
      by_cases hq:k<r.length
      ·obtain⟨⟨x,t⟩,ht⟩:∃ t,r[k]?=some t:=⟨_,List.getElem?_eq_getElem hq⟩
       have:=hLe.out _ ht
       exact .inl ⟨by omega,x,t,ht,by simp only at this;omega⟩
      ·exact .inr (by omega)
     have hpre:=xzB k hlo hg hq1 hq2 hcells
     have hpost:=xuc k hlo hg hq1 hq2 hcells
     have hlp:(r.take k).length=k:=by rw[List.length_take];omega
     obtain⟨v1,w3,hr1,hown1,hgr1⟩:=xaD w2 w2.heap.size 26 79 26 _ Tryz.underlying26 xe5 rfl (.slice none 0 0) _ [] (r.take k) (xfc _ _ _) hpre (by simp;omega) (Nat.le_refl _)
     rw[List.nil_append] at hown1
     have hb1:Below w2.heap.size w2 w3:=Below.grown (Below.refl _ _) hgr1 (Nat.le_refl _) (fun k hk=>by cases hk)
     have hb2:Below w2.heap.size w2 (w3.alloc (.cells #[.int .u64 id,.string s] 79)):=hb1.alloc hb1.size _
     obtain⟨v2,w4,hr2,hown2,hgr2⟩:=xaD (w3.alloc (.cells #[.int .u64 id,.string s] 79)) w2.heap.size 26 79 26 _ Tryz.underlying26 xe5 rfl v1 _ _ [(id,s)] (hown1.below (Below.alloc (Below.refl _ _) (Nat.le_refl _) _)) (xmC w3 id s _) (by simp only[List.length_singleton];omega) hb2.size
     have hb3:Below w2.heap.size w2 w4:=Below.grown hb2 hgr2 hb2.size (fun k hk=>(hown1.lt k hk).1)
     have hlq:(r.take k++[(id,s)]).length=k+1:=by rw[List.length_append,hlp];rfl
     have hput:xdi l id s=r.take k++[(id,s)]++r.drop k:=by
      rw[hL.out]
      unfold xhg
      rw[hr,← xf5 id r,← xiX id r,hn,List.append_assoc]
      rfl
     rcases hend with ⟨e1,x,t,e2,e3⟩|e1
     ·obtain⟨c0,c1⟩:=hcells k _ e2
      obtain⟨v3,w5,hr3,hown3,hgr3⟩:=xaD w4 w2.heap.size 26 79 26 _ Tryz.underlying26 xe5 rfl v2 _ _ (r.drop k) hown2 (hpost.below hb3) (by rw[List.length_drop];omega) hb3.size
      have hb4:Below w2.heap.size w2 w5:=Below.grown hb3 hgr3 hb3.size (fun k hk=>(hown2.lt k hk).1)
      have HB:=lH (hb.trans (hb4.mono hb.size))
      have HO:=lH (show ItsAt w5 v3 (xdi l id s) by rw[hput];exact hown3.itsAt)
      obtain⟨a1,cap1,rfl⟩:=hown1.slice
      obtain⟨a2,cap2',rfl⟩:=hown2.slice
      rw[hlp] at hr2
      rw[hlq] at hr3
      have HC:=lH hcells
      clear hcells hpre hpost hown1 hown2 hown3 hgr1 hgr2 hgr3 hb1 hb2 hb3 hb4 hb hput hown
      go_wp2_with (first|(at_builtin;refine Lib.wpList_append_run _ rfl _ _ _ _ rfl _ _ rfl rfl _ _ hr1 ?_;clear hr1)|(at_builtin;refine Lib.wpList_append_run _ rfl _ _ _ _ rfl _ _ rfl rfl _ _ hr2 ?_;clear hr2)|(at_builtin;refine Lib.wpList_append_run _ rfl _ _ _ _ rfl _ _ rfl rfl _ _ hr3 ?_;clear hr3)|fail)
      refine bodyPost_ret (results_tmp2 rfl _ _ _) rfl ⟨_,?_,HO.out,HB.out⟩
      rw[E.out];rfl
     ·by_cases hck:cap2=k
      ·have hpz:ItsAt w4 (.slice (some ⟨g,0,none⟩) (r.length - k) 0) (r.drop k):=xwS k (by omega)
       obtain⟨v3,w5,hr3,hown3,hgr3⟩:=xaD w4 w2.heap.size 26 79 26 _ Tryz.underlying26 xe5 rfl v2 _ _ (r.drop k) hown2 hpz (by rw[List.length_drop];omega) hb3.size
       have hb4:Below w2.heap.size w2 w5:=Below.grown hb3 hgr3 hb3.size (fun k hk=>(hown2.lt k hk).1)
       have HB:=lH (hb.trans (hb4.mono hb.size))
       have HO:=lH (show ItsAt w5 v3 (xdi l id s) by rw[hput];exact hown3.itsAt)
       obtain⟨a1,cap1,rfl⟩:=hown1.slice
       obtain⟨a2,cap2',rfl⟩:=hown2.slice
       rw[hlp] at hr2
       rw[hlq] at hr3
       have HC:=lH hcells
       clear hpz hcells hpre hpost hown1 hown2 hown3 hgr1 hgr2 hgr3 hb1 hb2 hb3 hb4 hb hput hown
       go_wp2_with (first|(at_builtin;refine Lib.wpList_append_run _ rfl _ _ _ _ rfl _ _ rfl rfl _ _ hr1 ?_;clear hr1)|(at_builtin;refine Lib.wpList_append_run _ rfl _ _ _ _ rfl _ _ rfl rfl _ _ hr2 ?_;clear hr2)|(at_builtin;refine Lib.wpList_append_run _ rfl _ _ _ _ rfl _ _ rfl rfl _ _ hr3 ?_;clear hr3)|fail)
       refine bodyPost_ret (results_tmp2 rfl _ _ _) rfl ⟨_,?_,HO.out,HB.out⟩
       rw[E.out];rfl
      ·have hdu:=hck
       obtain⟨v3,w5,hr3,hown3,hgr3⟩:=xaD w4 w2.heap.size 26 79 26 _ Tryz.underlying26 xe5 rfl v2 _ _ (r.drop k) hown2 (hpost.below hb3) (by rw[List.length_drop];omega) hb3.size
       have hb4:Below w2.heap.size w2 w5:=Below.grown hb3 hgr3 hb3.size (fun k hk=>(hown2.lt k hk).1)
       have HB:=lH (hb.trans (hb4.mono hb.size))
       have HO:=lH (show ItsAt w5 v3 (xdi l id s) by rw[hput];exact hown3.itsAt)
       obtain⟨a1,cap1,rfl⟩:=hown1.slice
       obtain⟨a2,cap2',rfl⟩:=hown2.slice
       rw[hlp] at hr2
       rw[hlq] at hr3
       have HC:=lH hcells
       clear hcells hpre hpost hown1 hown2 hown3 hgr1 hgr2 hgr3 hb1 hb2 hb3 hb4 hb hput hown
       go_wp2_with (first|(at_builtin;refine Lib.wpList_append_run _ rfl _ _ _ _ rfl _ _ rfl rfl _ _ hr1 ?_;clear hr1)|(at_builtin;refine Lib.wpList_append_run _ rfl _ _ _ _ rfl _ _ rfl rfl _ _ hr2 ?_;clear hr2)|(at_builtin;refine Lib.wpList_append_run _ rfl _ _ _ _ rfl _ _ rfl rfl _ _ hr3 ?_;clear hr3)|fail)
       refine bodyPost_ret (results_tmp2 rfl _ _ _) rfl ⟨_,?_,HO.out,HB.out⟩
       rw[E.out];rfl
theorem xtW (v:Value) (l:List It) (id:Nat) (s:ByteArray) (w:World) (hv:ItsAt w v l) (hl:l.length≤100000) (hid:id<18446744073709551616):Calls Tryz.prog 26 #[v,.int .u64 id,.string s] w (xi6 l id s w):=by
 by_cases h:putE l id s=0
 ·exact xvg v l id s w hv hl h
 ·exact xyc v l id s w hv hid h
end Go.Proofs.YtjkgkmmkehnggaaGreatDoor
namespace Go.Proofs.YtjkgkmmkehnggaaGreatDoor
set_option linter.unusedVariables false
set_option linter.unusedSimpArgs false
theorem xmw {id:Nat} {l:List It} {t:It} (h:t ∈ xhh id l):t.1<id:=by
 unfold xhh at h
 induction l with
 | nil=>simp at h
 | cons x l ih =>
  rw[List.takeWhile_cons] at h
  split at h
  ·rename_i hx
   rcases List.mem_cons.1 h with rfl|h
   ·simpa using hx
   ·exact ih h
  ·simp at h
theorem xw2 (id:Nat) (l:List It) (t:It):t ∈ l↔t ∈ xhh id l∨t ∈ xid id l:=by
 conv=>lhs;rw[← xc8 id l]
 exact List.mem_append
theorem xrZ {id:Nat} {l:List It} (hr:xhC l):∀ t ∈ xid id l,id≤t.1:=by
 unfold xid
 induction l with
 | nil=>intro t h;simp at h
 | cons x l ih =>
  intro t h
  rw[List.dropWhile_cons] at h
  split at h
  ·exact ih (List.pairwise_cons.1 hr).2 t h
  ·rename_i hx
   rcases List.mem_cons.1 h with rfl|h
   ·simpa using hx
   ·have:=(List.pairwise_cons.1 hr).1 t h
    have hx':¬ x.1<id:=by simpa using hx
    omega
theorem xi1 {id:Nat} {l:List It} (hr:xhC l):xhC (xdt id l):=List.Pairwise.sublist List.filter_sublist hr
theorem xi7 (id:Nat) (l:List It) (t:It):t ∈ xdt id l↔t ∈ l∧t.1≠id:=by
 unfold xdt
 rw[List.mem_filter]
 simp
theorem xeg (id:Nat) (s:ByteArray) (l:List It) (t:It):t ∈ xhg id s l↔t=(id,s)∨(t ∈ l∧t.1≠id):=by
 unfold xhg
 rw[List.mem_append,List.mem_cons,← xi7,xw2 id (xdt id l) t]
 constructor
 ·rintro(h|h|h)
  ·exact .inr (.inl h)
  ·exact .inl h
  ·exact .inr (.inr h)
 ·rintro(h|h|h)
  ·exact .inr (.inl h)
  ·exact .inl h
  ·exact .inr (.inr h)
theorem xmX (id:Nat) (s:ByteArray) {l:List It} (hr:xhC l):xhC (xhg id s l):=by
 have hd:=xi1 (id:=id) hr
 have hsplit:=xc8 id (xdt id l)
 have hp:xhC (xhh id (xdt id l)++xid id (xdt id l)):=by rw[hsplit];exact hd
 unfold xhC at hp
 rw[List.pairwise_append] at hp
 unfold xhC xhg
 rw[List.pairwise_append,List.pairwise_cons]
 refine⟨hp.1,⟨fun t ht=>?_,hp.2.1⟩,fun a ha b hb=>?_⟩
 ·have h1:=xrZ hd t ht
  have h2:t ∈ xdt id l:=(xw2 id _ t).2 (.inr ht)
  have h3:=(xi7 id l t).1 h2
  show id<t.1
  omega
 ·rcases List.mem_cons.1 hb with rfl|hb
  ·exact xmw ha
  ·exact hp.2.2 a ha b hb
theorem xoG {id:Nat} {l:List It} {t:It} (h:t ∈ l) (ht:t.1=id):(xdt id l).length+1≤l.length:=by
 induction l with
 | nil=>simp at h
 | cons x l ih =>
  have hle:=xe1 id l
  unfold xdt at hle ih ⊢
  by_cases hx:x.1=id
  ·rw[List.filter_cons_of_neg (by simpa using hx),List.length_cons]
   omega
  ·rw[List.filter_cons_of_pos (by simpa using hx),List.length_cons,List.length_cons]
   rcases List.mem_cons.1 h with rfl|h
   ·exact absurd ht hx
   ·have:=ih h;omega
theorem xsG (id:Nat) (s:ByteArray) (l:List It):(xhg id s l).length=(xdt id l).length+1:=by
 have h1:=congrArg List.length (xc8 id (xdt id l))
 rw[List.length_append] at h1
 unfold xhg
 rw[List.length_append,List.length_cons]
 omega
theorem xcK (id:Nat) (l:List It):(xb9 id l).isSome=true↔∃ t ∈ l,t.1=id:=by
 have h:=xg0 id l
 cases hg:xb9 id l with
 | none =>
  rw[hg] at h
  constructor
  ·intro hh;cases hh
  ·rintro⟨t,ht,e⟩
   exact absurd e ((h.1 rfl) t ht)
 | some s =>
  refine⟨fun _=>?_,fun _=>rfl⟩
  rcases Classical.em (∃ t ∈ l,t.1=id) with h2|h2
  ·exact h2
  ·exfalso
   have:xb9 id l=none:=(xg0 id l).2 (fun t ht e=>h2 ⟨t,ht,e⟩)
   rw[this] at hg
   cases hg
theorem xnq {id:Nat} {s:ByteArray} {l:List It} (h:GoodC l):GoodC (xdi l id s):=by
 unfold xdi
 split
 ·rename_i he
  unfold putE at he
  by_cases h1:6004799503160661≤id
  ·rw[if_pos h1] at he;cases he
  rw[if_neg h1] at he
  by_cases h2:s.size=0
  ·rw[if_pos h2] at he;cases he
  rw[if_neg h2] at he
  by_cases h3:65536<s.size
  ·rw[if_pos h3] at he;cases he
  rw[if_neg h3] at he
  refine⟨xmX id s h.rise,fun t ht=>?_,fun t ht=>?_,fun t ht=>?_,?_⟩
  ·rcases(xeg id s l t).1 ht with rfl|h4
   ·show id<_;omega
   ·exact h.low t h4.1
  ·rcases(xeg id s l t).1 ht with rfl|h4
   ·show 0<s.size;omega
   ·exact h.pos t h4.1
  ·rcases(xeg id s l t).1 ht with rfl|h4
   ·show s.size≤_;omega
   ·exact h.short t h4.1
  ·rw[xsG]
   have hf:=h.few
   cases hg:xb9 id l with
   | none =>
    rw[hg] at he
    have h5:¬ 2048≤l.length:=by
     intro h6
     rw[if_pos (by simp[h6])] at he
     cases he
    have:=xe1 id l
    omega
   | some x =>
    obtain⟨t,ht,e⟩:=(xcK id l).1 (by rw[hg];rfl)
    have:=xoG ht e
    omega
 ·exact h
theorem xiT:∀ {a b:List It},xhC a→xhC b→(∀ t,t ∈ a↔t ∈ b)→a=b
 | [],[],_,_,_=>rfl
 | [],y :: b,_,_,h=>by have:=(h y).2 (by simp);simp at this
 | x :: a,[],_,_,h=>by have:=(h x).1 (by simp);simp at this
 | x :: a,y :: b,ha,hb,h=>by
  have hx:=List.pairwise_cons.1 ha
  have hy:=List.pairwise_cons.1 hb
  have hxy:x=y:=by
   rcases List.mem_cons.1 ((h x).1 (by simp)) with e|e
   ·exact e
   ·rcases List.mem_cons.1 ((h y).2 (by simp)) with e2|e2
    ·exact e2.symm
    ·have h1:=hy.1 x e
     have h2:=hx.1 y e2
     omega
  subst hxy
  have:a=b:=xiT hx.2 hy.2 (fun t=>by
   constructor
   ·intro ht
    rcases List.mem_cons.1 ((h t).1 (List.mem_cons_of_mem _ ht)) with e|e
    ·subst e;have:=hx.1 t ht;omega
    ·exact e
   ·intro ht
    rcases List.mem_cons.1 ((h t).2 (List.mem_cons_of_mem _ ht)) with e|e
    ·subst e;have:=hy.1 t ht;omega
    ·exact e)
  rw[this]
end Go.Proofs.YtjkgkmmkehnggaaGreatDoor
namespace Go.Proofs.YtjkgkmmkehnggaaGreatDoor
set_option linter.unusedVariables false
set_option linter.unusedSimpArgs false
open Go.RowKit
set_option maxRecDepth 20000
theorem xwi (x:Int) (w:World):Calls Tryz.prog 218 #[.int .u64 x] w fun e w'=>e=.returned (.bool false)∧w'=w:=by
 go_enter Tryz.func218,Tryz.ntmps218
 go_wp2
 go_ret
 exact⟨rfl,rfl⟩
def xdU (x y:Int):Int:=if x<y then -1 else if x > y then 1 else 0
theorem xfH (x y:Int) (w:World):Calls Tryz.prog 162 #[.int .u64 x,.int .u64 y] w fun e w'=>e=.returned (.int .i64 (xdU x y))∧w'=w:=by
 have HN:=lH (fun a W=>xwi a W)
 unfold xdU
 by_cases h:x<y
 ·rw[if_pos h]
  go_enter Tryz.func162,Tryz.ntmps162
  go_wp2_with fail
  refine(HN.out _ _).mono ?_
  rintro e w1 ⟨rfl,rfl⟩
  go_wp2_with fail
  refine(HN.out _ _).mono ?_
  rintro e w1 ⟨rfl,rfl⟩
  go_wp2_with fail
  go_ret
  exact⟨rfl,rfl⟩
 ·rw[if_neg h]
  by_cases h2:x > y
  ·rw[if_pos h2]
   go_enter Tryz.func162,Tryz.ntmps162
   go_wp2_with fail
   refine(HN.out _ _).mono ?_
   rintro e w1 ⟨rfl,rfl⟩
   go_wp2_with fail
   refine(HN.out _ _).mono ?_
   rintro e w1 ⟨rfl,rfl⟩
   go_wp2_with fail
   go_ret
   exact⟨rfl,rfl⟩
  ·rw[if_neg h2]
   go_enter Tryz.func162,Tryz.ntmps162
   go_wp2_with fail
   refine(HN.out _ _).mono ?_
   rintro e w1 ⟨rfl,rfl⟩
   go_wp2_with fail
   refine(HN.out _ _).mono ?_
   rintro e w1 ⟨rfl,rfl⟩
   go_wp2_with fail
   go_ret
   exact⟨rfl,rfl⟩
theorem xtU (x y:Int):decide (xdU x y<0)=decide (x<y):=by
 unfold xdU
 by_cases h:x<y
 ·simp[h]
 ·by_cases h2:x > y <;> simp[h,h2]
theorem xue (x y:Int):decide (xdU x y=0)=decide (x=y):=by
 unfold xdU
 by_cases h:x<y
 ·simp[h];omega
 ·by_cases h2:x > y
  ·simp[h,h2];omega
  ·simp[h,h2];omega
theorem xjr (t:It) (y:Nat) (w:World):Calls Tryz.prog 92 #[.agg #[.int .u64 t.1,.string t.2],.int .u64 y] w fun e w'=>e=.returned (.int .i64 (xdU t.1 y))∧Below w.heap.size w w':=by
 have HC:=lH (fun W=>xfH t.1 y W)
 go_enter Tryz.func92,Tryz.ntmps92
 go_wp2_with fail
 refine(HC.out _).mono ?_
 rintro e w1 ⟨rfl,rfl⟩
 go_wp2_with fail
 go_ret
 exact⟨rfl,by go_grown⟩
def loC (id:Nat) (l:List It):Nat:=(xhh id l).length
theorem xnJ (id:Nat) (l:List It):loC id l≤l.length:=xxs id l
theorem xp5 {id:Nat} {l:List It} (hr:xhC l) (d:Nat) (t:It) (h:l[d]?=some t):t.1<id↔d<loC id l:=by
 constructor
 ·intro ht
  rcases Nat.lt_or_ge d (loC id l) with h1|h1
  ·exact h1
  ·exfalso
   have h2:(xid id l)[d - loC id l]?=some t:=by
    rw[← xiX id l,List.getElem?_drop]
    show l[loC id l+(d - loC id l)]?=some t
    rw[Nat.add_sub_cancel' h1]
    exact h
   have:=xrZ hr t (List.mem_of_getElem? h2)
   omega
 ·intro hd
  obtain⟨u,hu,hlt⟩:=xxC id l d hd
  rw[h] at hu
  cases hu
  exact hlt
theorem isC {id:Nat} {l:List It} (hr:xhC l):(xb9 id l).isSome=decide (∃ t,l[loC id l]?=some t∧t.1=id):=by
 rw[Bool.eq_iff_iff,xcK,decide_eq_true_iff]
 constructor
 ·rintro⟨t,ht,he⟩
  obtain⟨d,hd⟩:=List.mem_iff_getElem?.1 ht
  have h1:=(xp5 (id:=id) hr d t hd)
  have h2:¬ d<loC id l:=fun h=>by have:=h1.2 h;omega
  rcases Nat.lt_or_ge (loC id l) d with h3|h3
  ·exfalso
   obtain⟨u,hu⟩:∃ u,l[loC id l]?=some u:=⟨_,List.getElem?_eq_getElem (by have:=(List.getElem?_eq_some_iff.1 hd).1;omega)⟩
   have h4:=xsM id l u hu
   have h5:u.1<t.1:=by
    obtain⟨a1,rfl⟩:=List.getElem?_eq_some_iff.1 hu
    obtain⟨a2,rfl⟩:=List.getElem?_eq_some_iff.1 hd
    exact List.pairwise_iff_getElem.1 hr _ _ a1 a2 h3
   omega
  ·have:d=loC id l:=by omega
   subst this
   exact⟨t,hd,he⟩
 ·rintro⟨t,ht,he⟩
  exact⟨t,List.mem_of_getElem? ht,he⟩
theorem xB6 {id:Nat} {l:List It} (h:(xb9 id l).isSome=false):xdt id l=l:=by
 unfold xdt
 rw[List.filter_eq_self]
 intro u hu
 have hn:xb9 id l=none:=by cases hg:xb9 id l with|none=>rfl|some x=>rw[hg] at h;cases h
 have:=(xg0 id l).1 hn u hu
 simpa using this
theorem xsY {id:Nat} {l:List It} (hr:xhC l) (t:It) (h:l[loC id l]?=some t) (he:t.1=id):xdt id l=l.take (loC id l)++l.drop (loC id l+1):=by
 apply xiT (xi1 hr)
 ·have e:(l.take (loC id l)++l.drop (loC id l+1)).Sublist l:=by
   conv=>rhs;rw[← List.take_append_drop (loC id l) l]
   refine List.Sublist.append (List.Sublist.refl _) ?_
   rw[xeP l _ t h]
   exact List.sublist_cons_self _ _
  exact List.Pairwise.sublist e hr
 ·intro u
  have hl:u ∈ l↔u ∈ l.take (loC id l)∨u=t∨u ∈ l.drop (loC id l+1):=by
   conv=>lhs;rw[← List.take_append_drop (loC id l) l,xeP l _ t h]
   rw[List.mem_append,List.mem_cons]
  rw[xi7,hl,List.mem_append]
  have hlt:∀ u ∈ l.take (loC id l),u.1<id:=by
   intro u hu
   have:u ∈ xhh id l:=by
    have e:=xf5 id l
    unfold loC at hu
    rwa[e] at hu
   exact xmw this
  have hgt:∀ u ∈ l.drop (loC id l+1),id<u.1:=by
   intro u hu
   obtain⟨j,hj⟩:=List.mem_iff_getElem?.1 hu
   rw[List.getElem?_drop] at hj
   obtain⟨a1,e1⟩:=List.getElem?_eq_some_iff.1 h
   obtain⟨a2,e2⟩:=List.getElem?_eq_some_iff.1 hj
   have:=List.pairwise_iff_getElem.1 hr _ _ a1 a2 (by omega)
   rw[e1,e2] at this
   omega
  constructor
  ·rintro⟨h1|h1|h1,h2⟩
   ·exact .inl h1
   ·subst h1;exact absurd he h2
   ·exact .inr h1
  ·rintro(h1|h1)
   ·exact⟨.inl h1,by have:=hlt u h1;omega⟩
   ·exact⟨.inr (.inr h1),by have:=hgt u h1;omega⟩
theorem xxA {id:Nat} {s:ByteArray} {l:List It} (h:(xb9 id l).isSome=false):xhg id s l=l.take (loC id l)++(id,s) :: l.drop (loC id l):=by
 unfold xhg
 rw[xB6 h]
 unfold loC
 rw[xf5,xiX]
theorem xyZ {id:Nat} {s:ByteArray} {l:List It} (hr:xhC l) (t:It) (h:l[loC id l]?=some t) (he:t.1=id):xhg id s l=l.take (loC id l)++(id,s) :: l.drop (loC id l+1):=by
 apply xiT (xmX id s hr)
 ·have hd:xhC (l.take (loC id l)++l.drop (loC id l+1)):=by rw[← xsY hr t h he];exact xi1 hr
  have hlt:∀ u ∈ l.take (loC id l),u.1<id:=by
   intro u hu
   have:u ∈ xhh id l:=by
    have e:=xf5 id l
    unfold loC at hu
    rwa[e] at hu
   exact xmw this
  have hgt:∀ u ∈ l.drop (loC id l+1),id<u.1:=by
   intro u hu
   obtain⟨j,hj⟩:=List.mem_iff_getElem?.1 hu
   rw[List.getElem?_drop] at hj
   obtain⟨a1,e1⟩:=List.getElem?_eq_some_iff.1 h
   obtain⟨a2,e2⟩:=List.getElem?_eq_some_iff.1 hj
   have:=List.pairwise_iff_getElem.1 hr _ _ a1 a2 (by omega)
   rw[e1,e2] at this
   omega
  unfold xhC at hd ⊢
  rw[List.pairwise_append] at hd ⊢
  rw[List.pairwise_cons]
  refine⟨hd.1,⟨fun u hu=>hgt u hu,hd.2.1⟩,fun a ha b hb=>?_⟩
  rcases List.mem_cons.1 hb with rfl|hb
  ·exact hlt a ha
  ·exact hd.2.2 a ha b hb
 ·intro u
  rw[xeg,← xi7,xsY hr t h he,List.mem_append,List.mem_append,List.mem_cons]
  constructor
  ·rintro(h1|h1|h1)
   ·exact .inr (.inl h1)
   ·exact .inl h1
   ·exact .inr (.inr h1)
  ·rintro(h1|h1|h1)
   ·exact .inr (.inl h1)
   ·exact .inl h1
   ·exact .inr (.inr h1)
theorem xv9 (v:Value) (l:List It) (id:Nat) (w:World) (hr:xhC l) (hv:ItsAt w v l) (hl:l.length≤100000):Calls Tryz.prog 91 #[v,.int .u64 id,.func (.func 92) #[] #[]] w fun x w'=>x=.returned (.tuple #[.int .i64 (loC id l:Nat),.bool (xb9 id l).isSome])∧Below w.heap.size w w':=by
 have HF:=lH (fun t W=>xjr t id W)
 have hle:=xnJ id l
 obtain⟨al,cap,rfl,hcap,hmx,hc⟩:=hv
 have HC:=lH hc
 have HP:=lH (fun d t h=>xp5 (id:=id) hr d t h)
 have HL:Hid ((xb9 id l).isSome=decide (∃ t,l[loC id l]?=some t∧t.1=id)):=lH (isC hr)
 generalize (xb9 id l).isSome=il at *
 obtain⟨r,hr⟩:∃ r,loC id l=r:=⟨_,rfl⟩
 rw[hr] at HP HL hle ⊢
 clear hc hr
 go_enter Tryz.func91,Tryz.ntmps91
 go_wp2_with fail
 go_loopw [9,10] (fun x y wr=>∃ a b:Nat,a≤r∧r≤b∧b≤l.length∧x=.int .i64 a∧y=.int .i64 b∧Below w.heap.size w wr) (fun x y _=>(intOf y).toNat - (intOf x).toNat)
 case atStart=>exact⟨0,l.length,Nat.zero_le _,by omega,Nat.le_refl _,rfl,rfl,Below.refl _ _⟩
 case round =>
  obtain⟨a,b,h1,h2,h3,rfl,rfl,hbw⟩:=hrel
  by_cases hlt:a<b
  ·obtain⟨d,hd0⟩:∃ d:Nat,d=(a+b) / 2:=⟨_,rfl⟩
   have hm1:a≤d:=by omega
   have hm2:d<b:=by omega
   obtain⟨e,he⟩:∃ t,l[d]?=some t:=⟨_,List.getElem?_eq_getElem (by omega)⟩
   obtain⟨g,off,rfl,hg,l0,l1⟩:=HC.out d e he
   have k0:=(hbw.cell (p:=⟨g,off+d*2,none⟩) hg).trans l0
   have k1:=(hbw.cell (p:=⟨g,off+d*2+1,none⟩) hg).trans l1
   have hi0:(a:Int)<(b:Int):=by omega
   have hi2:(d:Int)<(l.length:Int):=by omega
   have hw1:IntKind.i64.wrap ((a:Int)+(b:Int))=((a+b:Nat):Int):=by rw[IntKind.wrap_i64] <;> omega
   have hw2:IntKind.u64.wrap ((a:Int)+(b:Int))=((a+b:Nat):Int):=by rw[IntKind.wrap_u64];omega
   have hP:=HP.out d e he
   have HE:=lH (HF.out e)
   have HLT:=lH (xtU (e.1:Nat) (id:Int))
   clear he l0 l1
   subst hd0
   have hi2':((a:Int)+(b:Int)) / 2<(l.length:Int):=by omega
   by_cases hq:e.1<id
   ·have hd:decide (xdU (e.1:Int) (id:Int)<0)=true:=by rw[HLT.out];simpa using hq
    have hq':(a+b) / 2+1≤r:=by have:=hP.1 hq;omega
    clear hq hP
    go_wp2_with fail
    refine(HE.out _).mono ?_
    rintro x w1 ⟨rfl,hb⟩
    have HB:=lH (hbw.trans (hb.mono hbw.size))
    clear hb hbw k0 k1
    go_wp2_with fail
    go_roundw
    case rel=>exact⟨(a+b) / 2+1,b,hq',h2,h3,by go_num,rfl,HB.out⟩
    case measure=>simp[intOf];omega
   ·have hd:decide (xdU (e.1:Int) (id:Int)<0)=false:=by rw[HLT.out];simpa using hq
    have hq':r≤(a+b) / 2:=by
     rcases Nat.lt_or_ge ((a+b) / 2) r with h|h
     ·exact absurd (hP.2 h) hq
     ·exact h
    clear hq hP
    go_wp2_with fail
    refine(HE.out _).mono ?_
    rintro x w1 ⟨rfl,hb⟩
    have HB:=lH (hbw.trans (hb.mono hbw.size))
    clear hb hbw k0 k1
    go_wp2_with fail
    go_roundw
    case rel=>exact⟨a,(a+b) / 2,h1,hq',by omega,rfl,by go_num,HB.out⟩
    case measure=>simp[intOf];omega
  ·obtain rfl:a=r:=by omega
   have hlt':¬ (a:Int)<(b:Int):=by omega
   have HBW:=lH hbw
   by_cases hal:a<l.length
   ·obtain⟨e,he⟩:∃ t,l[a]?=some t:=⟨_,List.getElem?_eq_getElem hal⟩
    obtain⟨g,off,rfl,hg,l0,l1⟩:=HC.out a e he
    have k0:=(hbw.cell (p:=⟨g,off+a*2,none⟩) hg).trans l0
    have k1:=(hbw.cell (p:=⟨g,off+a*2+1,none⟩) hg).trans l1
    have hi2:(a:Int)<(l.length:Int):=by omega
    have HE:=lH (HF.out e)
    have hil:il=decide ((e.1:Int)=(id:Int)):=by
     rw[HL.out]
     apply decide_eq_decide.2
     constructor
     ·rintro⟨t,ht,h⟩
      rw[he] at ht
      cases ht
      omega
     ·intro h
      exact⟨e,he,by omega⟩
    have HIL:=lH (hil.trans (xue _ _).symm)
    clear he l0 l1 hil hbw
    go_wp2_with fail
    refine(HE.out _).mono ?_
    rintro x w1 ⟨rfl,hb⟩
    have HB:=lH (HBW.out.trans (hb.mono HBW.out.size))
    clear hb k0 k1
    go_wp2_with fail
    go_ret2
    refine⟨?_,HB.out⟩
    rw[HIL.out]
    first|rfl|simp
   ·have hil:il=false:=by
     rw[HL.out,decide_eq_false_iff_not]
     rintro⟨t,ht,_⟩
     exact hal (List.getElem?_eq_some_iff.1 ht).1
    obtain rfl:a=l.length:=by omega
    subst hil
    have hi2:¬ (l.length:Int)<(l.length:Int):=by omega
    clear hbw
    go_wp2_with fail
    go_ret2
    exact⟨rfl,HBW.out⟩
structure ChS (w:World) (s:Value) (l:List It):Prop where
 its:ItsAt w s l
 good:GoodC l
theorem ChS.below {w w':World} {s:Value} {l:List It} (h:ChS w s l) (hb:Below w.heap.size w w'):ChS w' s l:=⟨h.its.below hb,h.good⟩
theorem ChS.form {w:World} {s:Value} {l:List It} (h:ChS w s l):∃ a n c,s=.slice a n c:=by
 obtain⟨a,c,e,_⟩:=h.its
 exact⟨_,_,_,e⟩
theorem xmu (w:World):ChS w (.slice none 0 0) []:=⟨xgH w,xjy⟩
theorem xg7 (s:Value) (l:List It) (id:Nat) (w:World) (h:ChS w s l):Calls Tryz.prog 34 #[.agg #[s],.int .u64 id] w fun e w'=>e=.returned (.tuple #[.int .i64 (loC id l:Nat),.bool (xb9 id l).isSome])∧Below w.heap.size w w':=by
 have HB:=lH (fun W (hb:Below w.heap.size w W)=>xv9 s l id W h.good.rise (h.its.below hb) (by have:=h.good.few;omega))
 obtain⟨a,n,c,rfl⟩:=h.form
 clear h
 go_enter Tryz.func34,Tryz.ntmps34
 go_wp2_with fail
 refine(HB.out _ (by go_grown)).mono ?_
 rintro e w1 ⟨rfl,hb⟩
 have H1:=lH (((Below.refl w.heap.size w).alloc (Nat.le_refl _) _).trans (hb.mono (by simp)))
 clear hb
 go_wp2_with fail
 go_ret2
 exact⟨rfl,H1.out⟩
end Go.Proofs.YtjkgkmmkehnggaaGreatDoor
