/- bMG bMH bMS. -/
import Derived.Test.YtjkgkmmkehnggaaGreatDoorYb1
namespace Go.Proofs.YtjkgkmmkehnggaaGreatDoor
set_option linter.unusedVariables false
set_option linter.unusedSimpArgs false
def gE (l:List En) (k:Nat):En:=l.getD k xdW
def nxE (l:List En) (k:Nat):Int:=((gE l k).off+(gE l k).ln) % 18446744073709551616
def xdV (l:List En) (c k:Nat):Int :=
 if c=0 then (if k=0 then (gE l 0).id else ((gE l k).id - (gE l (k - 1)).id) % 18446744073709551616)
 else if c=1 then (gE l k).rn else if c=2 then (gE l k).ln
 else if 0<k∧(gE l k).off=nxE l (k - 1) then 0 else ((gE l k).off+1) % 18446744073709551616
def xc6 (l:List En) (c k:Nat) (x:Int):Int :=
 if c=0∧0<k∧18446744073709551616≤(gE l (k - 1)).id+x then 11
 else if (c=1∨c=2)∧4294967295<x then 11
 else if c=3∧k=0∧x=0 then 4
 else if c=3∧0<k∧0<x∧x - 1=nxE l (k - 1) then 4 else 0
def xmf (l:List En) (c k:Nat) (x:Int):En :=
 if c=0 then { gE l k with id:=if 0<k then ((gE l (k - 1)).id+x) % 18446744073709551616 else x }
 else if c=1 then { gE l k with rn:=x % 4294967296 }
 else if c=2 then { gE l k with ln:=x % 4294967296 }
 else { gE l k with off:=if x=0 then nxE l (k - 1) else x - 1 }
def xfU (l:List En) (c k:Nat) (x:Int):List En:=l.set k (xmf l c k x)
theorem xc0 (l:List En) (c k:Nat) (x:Int):(xfU l c k x).length=l.length:=by simp[xfU]
theorem xkU (l:List En) (c k:Nat) (x:Int) (j:Nat) (hk:k<l.length):gE (xfU l c k x) j=if j=k then xmf l c k x else gE l j:=by
 unfold gE xfU
 rw[List.getD_eq_getElem?_getD,List.getD_eq_getElem?_getD,List.getElem?_set]
 by_cases h:j=k
 ·subst h;simp[hk]
 ·rw[if_neg (fun e=>h e.symm),if_neg h]
theorem xyi (l:List En) (k:Nat):xdV l 0 k=if k=0 then (gE l 0).id else ((gE l k).id - (gE l (k - 1)).id) % 18446744073709551616:=by simp[xdV]
theorem xzG (l:List En) (k:Nat):xdV l 1 k=(gE l k).rn:=by simp[xdV]
theorem xzv (l:List En) (k:Nat):xdV l 2 k=(gE l k).ln:=by simp[xdV]
theorem xyH (l:List En) (k:Nat):xdV l 3 k=if 0<k∧(gE l k).off=nxE l (k - 1) then 0 else ((gE l k).off+1) % 18446744073709551616:=by simp[xdV]
theorem xAL (l:List En) (k:Nat) (x:Int):xmf l 0 k x={ gE l k with id:=if 0<k then ((gE l (k - 1)).id+x) % 18446744073709551616 else x }:=by simp[xmf]
theorem xCe (l:List En) (k:Nat) (x:Int):xmf l 1 k x={ gE l k with rn:=x % 4294967296 }:=by simp[xmf]
theorem xCd (l:List En) (k:Nat) (x:Int):xmf l 2 k x={ gE l k with ln:=x % 4294967296 }:=by simp[xmf]
theorem xBZ (l:List En) (k:Nat) (x:Int):xmf l 3 k x={ gE l k with off:=if x=0 then nxE l (k - 1) else x - 1 }:=by simp[xmf]
def Agr (n:Nat) (l m:List En) (i:Nat):Prop:=∀ j,j<n→(j<i→(gE l j).id=(gE m j).id)∧(n+j<i→(gE l j).rn=(gE m j).rn)∧(2*n+j<i→(gE l j).ln=(gE m j).ln)∧(3*n+j<i→(gE l j).off=(gE m j).off)
theorem Agr.all {n:Nat} {l m:List En} (h:Agr n l m (4*n)) (hl:l.length=n) (hm:m.length=n):l=m:=by
 apply List.ext_getElem (by omega)
 intro j h1 h2
 have a:=h j (by omega)
 have e1:gE l j=l[j]:=by unfold gE;rw[List.getD_eq_getElem?_getD,List.getElem?_eq_getElem h1];rfl
 have e2:gE m j=m[j]:=by unfold gE;rw[List.getD_eq_getElem?_getD,List.getElem?_eq_getElem h2];rfl
 rw[← e1,← e2,En.eq_iff]
 exact⟨a.1 (by omega),a.2.2.2 (by omega),a.2.2.1 (by omega),a.2.1 (by omega)⟩
theorem xgU {n i:Nat} (h:i<4*n):(i / n=0∧i % n=i∧i<n)∨(i / n=1∧i=n+i % n∧i % n<n)∨(i / n=2∧i=2*n+i % n∧i % n<n)∨(i / n=3∧i=3*n+i % n∧i % n<n):=by
 have hn:0<n:=by omega
 have h1:i / n<4:=(Nat.div_lt_iff_lt_mul hn).2 h
 have h2:=Nat.mod_lt i hn
 have h3:=Nat.div_add_mod i n
 generalize i / n=c at h1 h3 ⊢
 generalize i % n=k at h2 h3 ⊢
 rcases(show c=0∨c=1∨c=2∨c=3 by omega) with rfl|rfl|rfl|rfl
 ·exact .inl ⟨rfl,by omega,by omega⟩
 ·exact .inr (.inl ⟨rfl,by omega,h2⟩)
 ·exact .inr (.inr (.inl ⟨rfl,by omega,h2⟩))
 ·exact .inr (.inr (.inr ⟨rfl,by omega,h2⟩))
theorem xz2 {n:Nat} {l m:List En} {i j:Nat} (h:Agr n l m i) (hj:j<i) (hi:j<4*n):xdV l (j / n) (j % n)=xdV m (j / n) (j % n):=by
 rcases xgU hi with ⟨hc,hk,h1⟩|⟨hc,hk,h1⟩|⟨hc,hk,h1⟩|⟨hc,hk,h1⟩ <;> rw[hc] <;> generalize j % n=k at *
 ·rw[xyi,xyi,(h 0 (by omega)).1 (by omega),(h k (by omega)).1 (by omega),(h (k - 1) (by omega)).1 (by omega)]
 ·rw[xzG,xzG];exact(h k h1).2.1 (by omega)
 ·rw[xzv,xzv];exact(h k h1).2.2.1 (by omega)
 ·rw[xyH,xyH,(h k h1).2.2.2 (by omega)]
  by_cases h0:0<k
  ·have e:nxE l (k - 1)=nxE m (k - 1):=by
    unfold nxE
    rw[(h (k - 1) (by omega)).2.2.2 (by omega),(h (k - 1) (by omega)).2.2.1 (by omega)]
   rw[e]
  ·simp[h0]
theorem xyT {n:Nat} {l:List En} (x:Int) {i:Nat} (hl:l.length=n) (hi:i<4*n):Agr n l (xfU l (i / n) (i % n) x) i:=by
 intro j hj
 have hk:i % n<l.length:=by rw[hl];exact Nat.mod_lt _ (by omega)
 rw[xkU _ _ _ _ _ hk]
 by_cases e:j=i % n
 ·rw[if_pos e]
  rcases xgU hi with ⟨hc,h0,h1⟩|⟨hc,h0,h1⟩|⟨hc,h0,h1⟩|⟨hc,h0,h1⟩ <;> rw[hc] <;> generalize i % n=k at*<;> subst e <;> simp only[xmf] <;> refine⟨fun a=>?_,fun a=>?_,fun a=>?_,fun a=>?_⟩ <;> first|rfl|omega|simp
 ·rw[if_neg e]
  exact⟨fun _=>rfl,fun _=>rfl,fun _=>rfl,fun _=>rfl⟩
theorem xrc {n:Nat} {l m:List En} {i:Nat} (hl:l.length=n) (hi:i<4*n) (hm:∀ j,j<n→xa1 (gE m j)∧(gE m j).off≤1099511627776) (h:Agr n l m i):Agr n (xfU l (i / n) (i % n) (xdV m (i / n) (i % n))) m (i+1):=by
 intro j hj
 have hk:i % n<l.length:=by rw[hl];exact Nat.mod_lt _ (by omega)
 rw[xkU _ _ _ _ _ hk]
 have a:=h j hj
 by_cases e:j=i % n
 ·rw[if_pos e]
  have b:=hm j hj
  unfold xa1 at b
  rcases xgU hi with ⟨hc,h0,h1⟩|⟨hc,h0,h1⟩|⟨hc,h0,h1⟩|⟨hc,h0,h1⟩ <;> rw[hc] <;> generalize i % n=k at*<;> subst e
  ·refine⟨fun _=>?_,fun q=>by omega,fun q=>by omega,fun q=>by omega⟩
   rw[xAL,xyi]
   simp only
   by_cases h2:j=0
   ·subst h2;simp
   ·rw[if_pos (by omega),if_neg h2,(h (j - 1) (by omega)).1 (by omega)]
    have:=hm (j - 1) (by omega)
    unfold xa1 at this
    omega
  ·refine⟨fun q=>a.1 (by omega),fun _=>?_,fun q=>by omega,fun q=>by omega⟩
   rw[xCe,xzG]
   simp only
   omega
  ·refine⟨fun q=>a.1 (by omega),fun q=>a.2.1 (by omega),fun _=>?_,fun q=>by omega⟩
   rw[xCd,xzv]
   simp only
   omega
  ·refine⟨fun q=>a.1 (by omega),fun q=>a.2.1 (by omega),fun q=>a.2.2.1 (by omega),fun _=>?_⟩
   rw[xBZ,xyH]
   simp only
   by_cases h2:0<j∧(gE m j).off=nxE m (j - 1)
   ·rw[if_pos h2,if_pos rfl,h2.2]
    unfold nxE
    rw[(h (j - 1) (by omega)).2.2.2 (by omega),(h (j - 1) (by omega)).2.2.1 (by omega)]
   ·rw[if_neg h2,if_neg (by omega)]
    omega
 ·rw[if_neg e]
  have hne:∀ q:Nat,q≤3→q*n+j=i→j=i % n:=by
   intro q _ hq
   rw[← hq,Nat.mul_comm,Nat.mul_add_mod,Nat.mod_eq_of_lt hj]
  refine⟨fun q=>a.1 ?_,fun q=>a.2.1 ?_,fun q=>a.2.2.1 ?_,fun q=>a.2.2.2 ?_⟩
  ·have:¬ (0*n+j=i):=fun w=>e (hne 0 (by omega) w)
   omega
  ·have:¬ (1*n+j=i):=fun w=>e (hne 1 (by omega) w)
   omega
  ·have:¬ (2*n+j=i):=fun w=>e (hne 2 (by omega) w)
   omega
  ·have:¬ (3*n+j=i):=fun w=>e (hne 3 (by omega) w)
   omega
def xCr (n:Nat) (m:List En):Prop:=(∀ j,j<n→xa1 (gE m j)∧(gE m j).off≤1099511627776)∧∀ j,j+1<n→(gE m j).id<(gE m (j+1)).id
theorem xt4 (p:Int) (l:List En) (h:xcX p l=0) (hm:∀ e ∈ l,xa1 e) (j:Nat) (hj:j+1<l.length):(gE l j).id<(gE l (j+1)).id:=by
 induction l generalizing p j with
 | nil=>simp at hj
 | cons e l ih =>
  have a:=xbZ p e l h
  cases j with
  | zero =>
   cases l with
   | nil=>simp at hj
   | cons e' l' =>
    have b:=xbZ _ _ _ a.2.2
    have c:=xn5 e (hm e (List.mem_cons_self ..)) a.1
    show e.id<e'.id
    omega
  | succ j=>exact ih (laN e) a.2.2 (fun x hx=>hm x (List.mem_cons_of_mem _ hx)) j (by simpa using hj)
theorem xfP (l:List En) (j:Nat) (hj:j<l.length):gE l j ∈ l:=by
 unfold gE
 rw[List.getD_eq_getElem?_getD,List.getElem?_eq_getElem hj]
 exact List.getElem_mem hj
theorem xAe (l:List En) (hm:∀ e ∈ l,xa1 e) (h:xa2 l=0):xCr l.length l:=by
 unfold xa2 at h
 split at h
 ·omega
 refine⟨fun j hj=>⟨hm _ (xfP l j hj),?_⟩,fun j hj=>xt4 _ l h hm j hj⟩
 exact(xhl _ (xfr _ l hm h _ (xfP l j hj)).2).2.2.2.2
theorem xtd {n:Nat} {l m:List En} {i:Nat} (hi:i<4*n) (hm:xCr n m) (h:Agr n l m i):xc6 l (i / n) (i % n) (xdV m (i / n) (i % n))=0:=by
 obtain⟨h1,h2⟩:=hm
 unfold xa1 at h1
 rcases xgU hi with ⟨hc,h0,hk⟩|⟨hc,h0,hk⟩|⟨hc,h0,hk⟩|⟨hc,h0,hk⟩ <;> rw[hc] <;> generalize i % n=k at *
 ·rw[xyi]
  unfold xc6
  rw[if_neg,if_neg (by omega),if_neg (by omega),if_neg (by omega)]
  rintro⟨-,hk0,hb⟩
  rw[if_neg (by omega),(h (k - 1) (by omega)).1 (by omega)] at hb
  have a:=h1 k (by omega)
  have b:=h1 (k - 1) (by omega)
  have c:=h2 (k - 1) (by omega)
  rw[show k - 1+1=k from by omega] at c
  omega
 ·rw[xzG]
  have a:=h1 k hk
  unfold xc6
  rw[if_neg (by omega),if_neg (by omega),if_neg (by omega),if_neg (by omega)]
 ·rw[xzv]
  have a:=h1 k hk
  unfold xc6
  rw[if_neg (by omega),if_neg (by omega),if_neg (by omega),if_neg (by omega)]
 ·rw[xyH]
  have a:=h1 k hk
  unfold xc6
  rw[if_neg (by omega),if_neg (by omega)]
  by_cases hz:0<k∧(gE m k).off=nxE m (k - 1)
  ·rw[if_pos hz,if_neg (by omega),if_neg (by omega)]
  ·rw[if_neg hz,if_neg (by omega),if_neg]
   rintro⟨-,hk0,-,he⟩
   refine hz ⟨hk0,?_⟩
   have e:nxE l (k - 1)=nxE m (k - 1):=by
    unfold nxE
    rw[(h (k - 1) (by omega)).2.2.2 (by omega),(h (k - 1) (by omega)).2.2.1 (by omega)]
   rw[e] at he
   omega
theorem xxt {n:Nat} {m:List En} {i:Nat} (hi:i<4*n) (hm:∀ j,j<n→xa1 (gE m j)):0≤xdV m (i / n) (i % n)∧xdV m (i / n) (i % n)≤18446744073709551615:=by
 unfold xa1 at hm
 rcases xgU hi with ⟨hc,h0,hk⟩|⟨hc,h0,hk⟩|⟨hc,h0,hk⟩|⟨hc,h0,hk⟩ <;> rw[hc] <;> generalize i % n=k at *
 ·rw[xyi]
  have:=hm 0 (by omega)
  split <;> omega
 ·rw[xzG];have:=hm k hk;omega
 ·rw[xzv];have:=hm k hk;omega
 ·rw[xyH];split <;> omega
theorem xy8 {n:Nat} {l:List En} {i:Nat} {x:Int} (hl:l.length=n) (hi:i<4*n) (hm:∀ j,j<n→xa1 (gE l j)) (hx:0≤x∧x≤18446744073709551615) (h:xc6 l (i / n) (i % n) x=0):xdV (xfU l (i / n) (i % n) x) (i / n) (i % n)=x:=by
 have hk':i % n<l.length:=by rw[hl];exact Nat.mod_lt _ (by omega)
 have he:=fun j=>xkU l (i / n) (i % n) x j hk'
 generalize xfU l (i / n) (i % n) x=l' at *
 unfold xa1 at hm
 rcases xgU hi with ⟨hc,h0,hk⟩|⟨hc,h0,hk⟩|⟨hc,h0,hk⟩|⟨hc,h0,hk⟩ <;> rw[hc] at h he ⊢ <;> generalize i % n=k at*<;> unfold xc6 at h <;> have e1:=he k <;> rw[if_pos rfl] at e1
 ·rw[xyi]
  rw[xAL] at e1
  by_cases z:k=0
  ·rw[if_pos z]
   subst z
   rw[e1]
   simp
  ·have e2:=he (k - 1)
   rw[if_neg (show ¬ (k - 1=k) by omega)] at e2
   rw[if_neg z,e1,e2]
   simp only
   have:=hm (k - 1) (by omega)
   rw[if_pos (show 0<k by omega)]
   split at h
   ·omega
   ·omega
 ·rw[xzG,e1,xCe]
  simp only
  split at h
  ·omega
  split at h
  ·omega
  omega
 ·rw[xzv,e1,xCd]
  simp only
  split at h
  ·omega
  split at h
  ·omega
  omega
 ·rw[xBZ] at e1
  rw[xyH,e1]
  simp only
  split at h
  ·omega
  split at h
  ·omega
  split at h
  ·omega
  rename_i g3
  split at h
  ·omega
  rename_i g4
  by_cases z:0<k
  ·have e:nxE l' (k - 1)=nxE l (k - 1):=by
    have e2:=he (k - 1)
    rw[if_neg (show ¬ (k - 1=k) by omega)] at e2
    unfold nxE
    rw[e2]
   rw[e]
   by_cases z1:x=0
   ·rw[if_pos z1,if_pos ⟨z,rfl⟩,z1]
   ·rw[if_neg z1,if_neg (by rintro⟨-,q⟩;exact g4 ⟨rfl,z,by omega,q⟩)]
    omega
  ·rw[if_neg (by rintro⟨q,-⟩;exact z q),if_neg (by omega)]
   omega
theorem xmg {n:Nat} {l:List En} {i:Nat} {x:Int} (hl:l.length=n) (hi:i<4*n) (hm:∀ j,j<n→xa1 (gE l j)) (hx:0≤x∧x≤18446744073709551615):∀ j,j<n→xa1 (gE (xfU l (i / n) (i % n) x) j):=by
 intro j hj
 have hk':i % n<l.length:=by rw[hl];exact Nat.mod_lt _ (by omega)
 rw[xkU _ _ _ _ _ hk']
 split
 ·have a:=hm (i % n) (by omega)
  unfold xa1 at a ⊢
  rcases xgU hi with ⟨hc,h0,hk⟩|⟨hc,h0,hk⟩|⟨hc,h0,hk⟩|⟨hc,h0,hk⟩ <;> rw[hc] <;> generalize i % n=k at *
  ·rw[xAL];simp only;split <;> omega
  ·rw[xCe];simp only;omega
  ·rw[xCd];simp only;omega
  ·rw[xBZ];simp only;unfold nxE;split <;> omega
 ·exact hm j hj
def xhW (x:Int):List UInt8:=(enc x).map ub
theorem xmQ (x:Int):1≤(xhW x).length∧(xhW x).length≤10:=by
 unfold xhW;rw[List.length_map];exact xeb x
def xbD (L:List En) (n:Nat):Nat→Nat→List UInt8
 | 0,_=>[]
 | m+1,i=>xhW (xdV L (i / n) (i % n))++xbD L n m (i+1)
theorem xqh (L:List En) (n m i:Nat):(xbD L n m i).length≤10*m:=by
 induction m generalizing i with
 | zero=>simp[xbD]
 | succ m ih =>
  rw[xbD,List.length_append]
  have:=ih (i+1)
  have:=xmQ (xdV L (i / n) (i % n))
  omega
def xck (l:List En):List UInt8:=xhW l.length++xbD l l.length (4*l.length) 0
def goD (t:List UInt8) (n:Nat):Nat→Nat→List En→Nat→List En × Nat × Int
 | 0,_,l,a=>(l,a,0)
 | m+1,i,l,a =>
  if xbI (t.drop a)≠0 then ([],a,xbI (t.drop a)) else
  if xc6 l (i / n) (i % n) (xa7 (t.drop a))≠0 then ([],a,xc6 l (i / n) (i % n) (xa7 (t.drop a))) else
  goD t n m (i+1) (xfU l (i / n) (i % n) (xa7 (t.drop a))) (a+(xaO 10 (t.drop a)+1))
theorem xvd {n:Nat} {L:List En} (hL:L.length=n) (hr:xCr n L) (r:List UInt8):∀ (m i:Nat) (l:List En) (pre:List UInt8),i+m=4*n→l.length=n→Agr n l L i →
  goD (pre++(xbD L n m i++r)) n m i l pre.length=(L,(pre++xbD L n m i).length,0):=by
 intro m
 induction m with
 | zero =>
  intro i l pre hi hl ha
  rw[show i=4*n from by omega] at ha
  rw[ha.all hl hL]
  simp[goD,xbD]
 | succ m ih =>
  intro i l pre hi hl ha
  have hb:=xxt (i:=i) (by omega) (fun j hj=>(hr.1 j hj).1)
  obtain⟨e1,e2,e3⟩:=xno _ hb.1 hb.2 (xbD L n m (i+1)++r)
  have hd:(pre++(xbD L n (m+1) i++r)).drop pre.length=(enc (xdV L (i / n) (i % n))).map ub++(xbD L n m (i+1)++r):=by
   rw[List.drop_left,xbD,List.append_assoc];rfl
  rw[goD,hd,e1,e3,if_neg (by simp),if_neg (by rw[xtd (by omega) hr ha];simp)]
  have hz:pre.length+(xaO 10 ((enc (xdV L (i / n) (i % n))).map ub++(xbD L n m (i+1)++r))+1)=(pre++xhW (xdV L (i / n) (i % n))).length:=by
   unfold xlo at e2
   rw[List.length_append]
   unfold xhW
   rw[List.length_map]
   omega
  rw[hz]
  have hq:pre++(xbD L n (m+1) i++r)=(pre++xhW (xdV L (i / n) (i % n)))++(xbD L n m (i+1)++r):=by
   rw[xbD];simp only[List.append_assoc]
  rw[hq,ih (i+1) _ _ (by omega) (by rw[xc0,hl]) (xrc hl (by omega) hr.1 ha),xbD]
  simp only[List.append_assoc]
theorem xAi (t:List UInt8) (n:Nat):∀ (m i:Nat) (l:List En) (a:Nat),a≤t.length →
  ((goD t n m i l a).2.2≠0→(goD t n m i l a).1=[])∧a≤(goD t n m i l a).2.1∧(goD t n m i l a).2.1≤t.length:=by
 intro m
 induction m with
 | zero=>intro i l a ha;simp[goD];exact ha
 | succ m ih =>
  intro i l a ha
  rw[goD]
  split
  ·simp;exact ha
  ·rename_i he
   split
   ·simp;exact ha
   ·have hk:=(xdx _ (by simpa using he)).2.1
    rw[List.length_drop] at hk
    have:=ih (i+1) (xfU l (i / n) (i % n) (xa7 (t.drop a))) (a+(xaO 10 (t.drop a)+1)) (by omega)
    refine⟨this.1,by omega,this.2.2⟩
theorem xuH (t:List UInt8) (n:Nat):∀ (m i:Nat) (l:List En) (a:Nat),i+m=4*n→l.length=n→(∀ j,j<n→xa1 (gE l j))→a≤t.length→(goD t n m i l a).2.2=0 →
  Agr n l (goD t n m i l a).1 i∧(goD t n m i l a).1.length=n∧(∀ j,j<n→xa1 (gE (goD t n m i l a).1 j))∧a≤(goD t n m i l a).2.1∧(goD t n m i l a).2.1≤t.length∧(t.drop a).take ((goD t n m i l a).2.1 - a)=xbD (goD t n m i l a).1 n m i:=by
 intro m
 induction m with
 | zero =>
  intro i l a hi hl hm ha h
  simp[goD,xbD,hl,ha]
  exact⟨fun j _=>⟨fun _=>rfl,fun _=>rfl,fun _=>rfl,fun _=>rfl⟩,hm⟩
 | succ m ih =>
  intro i l a hi hl hm ha h
  rw[goD] at h ⊢
  by_cases he:¬ xbI (t.drop a)=0
  ·rw[if_pos he] at h;exact absurd h he
  have he:=Classical.not_not.1 he
  rw[if_neg (by simpa using he)] at h ⊢
  by_cases hw:¬ xc6 l (i / n) (i % n) (xa7 (t.drop a))=0
  ·rw[if_pos hw] at h;exact absurd h hw
  have hw:=Classical.not_not.1 hw
  rw[if_neg (by simpa using hw)] at h ⊢
  have hx:=xd4 _ he
  have hk:=(xdx _ he).2.1
  rw[List.length_drop] at hk
  have hp:=xy8 hl (by omega) hm hx hw
  have q:=ih (i+1) (xfU l (i / n) (i % n) (xa7 (t.drop a))) (a+(xaO 10 (t.drop a)+1)) (by omega) (by rw[xc0,hl]) (xmg hl (by omega) hm hx) (by omega) h
  generalize goD t n m (i+1) (xfU l (i / n) (i % n) (xa7 (t.drop a))) (a+(xaO 10 (t.drop a)+1))=R at q ⊢
  obtain⟨L,b,e⟩:=R
  obtain⟨q1,q2,q3,q4,q5,q6⟩:=q
  simp only at q1 q2 q3 q4 q5 q6 ⊢
  have hA:=xyT (xa7 (t.drop a)) hl (show i<4*n by omega)
  refine⟨fun j hj=>?_,q2,q3,by omega,q5,?_⟩
  ·have u:=hA j hj
   have v:=q1 j hj
   exact⟨fun z=>(u.1 z).trans (v.1 (by omega)),fun z=>(u.2.1 z).trans (v.2.1 (by omega)),fun z=>(u.2.2.1 z).trans (v.2.2.1 (by omega)),fun z=>(u.2.2.2 z).trans (v.2.2.2 (by omega))⟩
  ·have hc:=xz2 q1 (Nat.lt_succ_self i) (show i<4*n by omega)
   rw[xbD,← hc,hp,← q6]
   have hen:xhW (xa7 (t.drop a))=(t.drop a).take (xaO 10 (t.drop a)+1):=by
    unfold xhW
    rw[xkx _ he,List.map_map]
    conv=>rhs;rw[← List.map_id ((t.drop a).take (xaO 10 (t.drop a)+1))]
    exact List.map_congr_left fun c _=>xqu c
   rw[hen,← List.drop_drop]
   generalize t.drop a=T at *
   rw[show b - a=(xaO 10 T+1)+(b - (a+(xaO 10 T+1))) from by omega,List.take_add]
def xaG (n:Nat):List En:=List.replicate n xdW
theorem xu0 (n j:Nat):gE (xaG n) j=xdW:=by
 unfold gE xaG
 rw[List.getD_eq_getElem?_getD,List.getElem?_replicate]
 split <;> rfl
theorem xrw (n:Nat) (L:List En):Agr n (xaG n) L 0:=fun j _=>⟨fun h=>absurd h (by omega),fun h=>absurd h (by omega),fun h=>absurd h (by omega),fun h=>absurd h (by omega)⟩
theorem xkB (n:Nat):∀ j,j<n→xa1 (gE (xaG n) j):=by
 intro j _
 rw[xu0]
 unfold xa1 xdW
 simp
def xco (t:List UInt8):List En × Nat × Int :=
 if 65536<t.length then ([],0,5) else
 if xbI t≠0 then ([],0,xbI t) else
 if 4096<xa7 t then ([],0,21) else
 if (goD t (xa7 t).toNat (4*(xa7 t).toNat) 0 (xaG (xa7 t).toNat) (xaO 10 t+1)).2.2≠0 then goD t (xa7 t).toNat (4*(xa7 t).toNat) 0 (xaG (xa7 t).toNat) (xaO 10 t+1) else
 if (goD t (xa7 t).toNat (4*(xa7 t).toNat) 0 (xaG (xa7 t).toNat) (xaO 10 t+1)).2.1<t.length then ([],(goD t (xa7 t).toNat (4*(xa7 t).toNat) 0 (xaG (xa7 t).toNat) (xaO 10 t+1)).2.1,4) else
 if xa2 (goD t (xa7 t).toNat (4*(xa7 t).toNat) 0 (xaG (xa7 t).toNat) (xaO 10 t+1)).1≠0 then ([],t.length,xa2 (goD t (xa7 t).toNat (4*(xa7 t).toNat) 0 (xaG (xa7 t).toNat) (xaO 10 t+1)).1) else
 ((goD t (xa7 t).toNat (4*(xa7 t).toNat) 0 (xaG (xa7 t).toNat) (xaO 10 t+1)).1,t.length,0)
theorem xgw (l:List En):1≤(xck l).length∧(xck l).length≤10+40*l.length:=by
 unfold xck
 rw[List.length_append]
 have:=xmQ l.length
 have:=xqh l l.length (4*l.length) 0
 omega
theorem xik {l:List En} (h:xa2 l=0):l.length≤4096:=by
 unfold xa2 at h
 split at h <;> omega
theorem xzA (l:List En) (hm:∀ e ∈ l,xa1 e) (h:xa2 l=0) (r:List UInt8) :
  xbI (xck l++r)=0∧(xa7 (xck l++r)).toNat=l.length∧xa7 (xck l++r)=l.length ∧
  goD (xck l++r) l.length (4*l.length) 0 (xaG l.length) (xaO 10 (xck l++r)+1)=(l,(xck l).length,0):=by
 have hn:=xik h
 obtain⟨e1,e2,e3⟩:=xno l.length (by omega) (by omega) (xbD l l.length (4*l.length) 0++r)
 have ht:xck l++r=xhW l.length++(xbD l l.length (4*l.length) 0++r):=by unfold xck;rw[List.append_assoc]
 change xbI (xhW _++_)=_ at e1
 change xlo (xhW _++_)=_ at e2
 change xa7 (xhW _++_)=_ at e3
 rw[← ht] at e1 e2 e3
 have hg:=xvd (n:=l.length) rfl (xAe l hm h) r (4*l.length) 0 (xaG l.length) (xhW l.length) (by omega) (by simp[xaG]) (xrw _ _)
 refine⟨e1,by rw[e3];simp,e3,?_⟩
 have hz:xaO 10 (xck l++r)+1=(xhW (l.length:Int)).length:=by
  unfold xlo at e2
  have:(xhW (l.length:Int)).length=(enc (l.length:Int)).length:=by unfold xhW;rw[List.length_map]
  omega
 rw[hz]
 rw[← ht] at hg
 exact hg
theorem xk1 (l:List En) (hm:∀ e ∈ l,xa1 e) (h:xa2 l=0) (hl:(xck l).length≤65536):xco (xck l)=(l,(xck l).length,0):=by
 obtain⟨e1,e2,e3,e4⟩:=xzA l hm h []
 rw[List.append_nil] at e1 e2 e3 e4
 have:=xik h
 unfold xco
 rw[e2,e4]
 simp only
 rw[if_neg (by omega),e1,if_neg (by simp),e3,if_neg (by omega),if_neg (by simp),if_neg (by omega),if_neg (by rw[h];simp)]
theorem xjj (t:List UInt8) (h:(xco t).2.2=0):xa2 (xco t).1=0∧(∀ e ∈ (xco t).1,xa1 e)∧xck (xco t).1=t∧(xco t).2.1=t.length∧t.length≤65536:=by
 unfold xco at h ⊢
 by_cases h1:65536<t.length
 ·rw[if_pos h1] at h;simp at h
 rw[if_neg h1] at h ⊢
 by_cases h2:¬ xbI t=0
 ·rw[if_pos h2] at h;exact absurd h h2
 have h2:=Classical.not_not.1 h2
 rw[if_neg (by simpa using h2)] at h ⊢
 by_cases h3:4096<xa7 t
 ·rw[if_pos h3] at h;simp at h
 rw[if_neg h3] at h ⊢
 have hx:=xd4 _ h2
 have hk:=(xdx _ h2).2.1
 have hb:=xkx _ h2
 obtain⟨n,hn⟩:∃ n:Nat,xa7 t=n:=⟨(xa7 t).toNat,by omega⟩
 rw[hn] at h ⊢
 rw[hn] at hb
 simp only[Int.toNat_natCast] at h ⊢
 have q:=xuH t n (4*n) 0 (xaG n) (xaO 10 t+1) (by omega) (by simp[xaG]) (xkB n) (by omega)
 generalize goD t n (4*n) 0 (xaG n) (xaO 10 t+1)=R at *
 obtain⟨L,b,e⟩:=R
 simp only at h q ⊢
 by_cases h4:¬ e=0
 ·rw[if_pos h4] at h;exact absurd h h4
 have h4:=Classical.not_not.1 h4
 rw[if_neg (by simpa using h4)] at h ⊢
 by_cases h5:b<t.length
 ·rw[if_pos h5] at h;simp at h
 rw[if_neg h5] at h ⊢
 by_cases h6:¬ xa2 L=0
 ·rw[if_pos h6] at h;exact absurd h h6
 have h6:=Classical.not_not.1 h6
 rw[if_neg (by simpa using h6)]
 obtain⟨q1,q2,q3,q4,q5,q6⟩:=q h4
 refine⟨h6,?_,?_,rfl,by omega⟩
 ·intro x hx'
  change x ∈ L at hx'
  obtain⟨j,hj,rfl⟩:=List.getElem_of_mem hx'
  have:=q3 j (by omega)
  unfold gE at this
  rwa[List.getD_eq_getElem?_getD,List.getElem?_eq_getElem hj] at this
 ·simp only
  unfold xck
  rw[q2,← q6]
  have hen:xhW (n:Int)=t.take (xaO 10 t+1):=by
   unfold xhW
   rw[hb,List.map_map]
   conv=>rhs;rw[← List.map_id (t.take (xaO 10 t+1))]
   exact List.map_congr_left fun c _=>xqu c
  have hd:(t.drop (xaO 10 t+1)).take (b - (xaO 10 t+1))=t.drop (xaO 10 t+1):=List.take_of_length_le (by rw[List.length_drop];omega)
  rw[hen,hd,List.take_append_drop]
theorem xnX (t:List UInt8):((xco t).2.2≠0→(xco t).1=[])∧(xco t).2.1≤t.length:=by
 unfold xco
 split
 ·simp
 split
 ·simp
 rename_i h2
 split
 ·simp
 have hk:=(xdx t (by simpa using h2)).2.1
 have q:=xAi t (xa7 t).toNat (4*(xa7 t).toNat) 0 (xaG (xa7 t).toNat) (xaO 10 t+1) (by omega)
 generalize goD t (xa7 t).toNat (4*(xa7 t).toNat) 0 (xaG (xa7 t).toNat) (xaO 10 t+1)=R at *
 split
 ·exact⟨q.1,q.2.2⟩
 split
 ·exact⟨fun _=>rfl,q.2.2⟩
 split
 ·exact⟨fun _=>rfl,Nat.le_refl _⟩
 ·exact⟨fun h=>absurd rfl h,Nat.le_refl _⟩
def xho (l:List En) (c:Nat):Nat→List Int
 | 0=>[]
 | k+1=>xho l c k++enc (xdV l c k)
def xau (l:List En):List Int:=enc l.length++(xho l 0 l.length++(xho l 1 l.length++(xho l 2 l.length++xho l 3 l.length)))
theorem xe9 (L:List En) (n m1 m2 i:Nat):xbD L n (m1+m2) i=xbD L n m1 i++xbD L n m2 (i+m1):=by
 induction m1 generalizing i with
 | zero=>simp[xbD]
 | succ m ih =>
  rw[show m+1+m2=(m+m2)+1 from by omega,xbD,xbD,ih,List.append_assoc,show i+1+m=i+(m+1) from by omega]
theorem xdN (L:List En) (n c m:Nat) (hm:m≤n):xbD L n m (c*n)=(xho L c m).map ub:=by
 induction m with
 | zero=>rfl
 | succ m ih =>
  rw[xe9,ih (by omega),xho,List.map_append]
  have e1:(c*n+m) / n=c:=by rw[Nat.mul_comm,Nat.mul_add_div (by omega),Nat.div_eq_of_lt (by omega)];omega
  have e2:(c*n+m) % n=m:=by rw[Nat.mul_comm,Nat.mul_add_mod,Nat.mod_eq_of_lt (by omega)]
  simp only[xbD,e1,e2,List.append_nil]
  rfl
theorem xhH (l:List En):xck l=(xau l).map ub:=by
 unfold xck xau
 have h0:=xdN l l.length 0 l.length (Nat.le_refl _)
 have h1:=xdN l l.length 1 l.length (Nat.le_refl _)
 have h2:=xdN l l.length 2 l.length (Nat.le_refl _)
 have h3:=xdN l l.length 3 l.length (Nat.le_refl _)
 rw[show 4*l.length=l.length+(l.length+(l.length+l.length)) from by omega,xe9,xe9,xe9]
 simp only[Nat.zero_mul,Nat.one_mul,Nat.zero_add] at h0 h1 ⊢
 rw[show l.length+l.length=2*l.length from by omega,show 2*l.length+l.length=3*l.length from by omega,h0,h1,h2,h3]
 simp only[List.map_append]
 rfl
theorem xdq (l:List En):(xau l).length=(xck l).length:=by rw[xhH,List.length_map]
end Go.Proofs.YtjkgkmmkehnggaaGreatDoor
namespace Go.Proofs.YtjkgkmmkehnggaaGreatDoor
set_option linter.unusedVariables false
set_option linter.unusedSimpArgs false
open Go.RowKit
set_option maxRecDepth 20000
open Go.RowKit
set_option maxRecDepth 20000
def xmr (l:List En):Int:=if xa2 l=0 then (if 65536<(xau l).length then 5 else 0) else xa2 l
def xpX (l:List En):ByteArray:=if xmr l=0 then str (xau l) else ByteArray.mk #[]
def xfR (l:List En):Int:=if xa2 l=0 then (xau l).length else 0
end Go.Proofs.YtjkgkmmkehnggaaGreatDoor
namespace Go.Proofs.YtjkgkmmkehnggaaGreatDoor
set_option linter.unusedVariables false
set_option linter.unusedSimpArgs false
def gS (l:List En) (k:Nat):En:=l.getD k xdW
theorem xw1 {l:List En} {k:Nat} {e:En} (h:l[k]?=some e):gS l k=e:=by unfold gS;rw[List.getD_eq_getElem?_getD,h];rfl
theorem xdZ (l:List En) (k:Nat) (h:k<l.length):l[k]?=some (gS l k):=by
 rw[List.getElem?_eq_getElem h,gS,List.getD_eq_getElem?_getD,List.getElem?_eq_getElem h];rfl
theorem xcO (l:List En) (k:Nat) (h:k<l.length):gS l k ∈ l:=List.mem_of_getElem? (xdZ l k h)
def xal (l:List En):List En:=l.filter fun e=>decide (e.rn=0)
theorem xxW (p:Int) (l:List En) (h:xcX p l=0) (hm:∀ e ∈ l,xa1 e):∀ i j:Nat,i<j→j<l.length→laN (gS l i)<(gS l j).id:=by
 induction l generalizing p with
 | nil=>intro i j _ hj;simp at hj
 | cons e l ih =>
  intro i j hij hj
  have a:=xbZ p e l h
  cases j with
  | zero=>omega
  | succ j =>
   have hj':j<l.length:=by simpa using hj
   cases i with
   | zero =>
    show laN e<(gS l j).id
    exact(xfr _ l (fun x hx=>hm x (List.mem_cons_of_mem _ hx)) a.2.2 _ (xcO l j hj')).1
   | succ i=>exact ih (laN e) a.2.2 (fun x hx=>hm x (List.mem_cons_of_mem _ hx)) i j (by omega) hj'
theorem xtt {l:List En} (h:xa2 l=0):xcX (-1) l=0∧l.length≤4096:=by
 unfold xa2 at h
 split at h
 ·omega
 ·exact⟨h,by omega⟩
theorem xBw {l:List En} (hm:∀ e ∈ l,xa1 e) (h:xa2 l=0) {i j:Nat} (hij:i<j) (hj:j<l.length):laN (gS l i)<(gS l j).id:=xxW _ l (xtt h).1 hm i j hij hj
theorem xzN (l:List En) (n k:Nat) (h:k<n):gS (l.take n) k=gS l k:=by
 unfold gS
 rw[List.getD_eq_getElem?_getD,List.getD_eq_getElem?_getD,List.getElem?_take,if_pos h]
theorem xzJ (l:List En) (n k:Nat):gS (l.drop n) k=gS l (n+k):=by
 unfold gS
 rw[List.getD_eq_getElem?_getD,List.getD_eq_getElem?_getD,List.getElem?_drop]
theorem xuW {l:List En} (h:xa2 l=0) (n:Nat):xa2 (l.take n)=0:=by
 obtain⟨h1,h2⟩:=xtt h
 unfold xa2
 rw[if_neg (by rw[List.length_take];omega)]
 exact xeu (-1) (l.take n) (l.drop n) (by rw[List.take_append_drop];exact h1)
theorem xwc {l:List En} (hm:∀ e ∈ l,xa1 e) (h:xa2 l=0) (n:Nat):xa2 (l.drop n)=0:=by
 obtain⟨h1,h2⟩:=xtt h
 unfold xa2
 rw[if_neg (by rw[List.length_drop];omega)]
 have hl:=xeu (-1) (l.take n) (l.drop n) (by rw[List.take_append_drop];exact h1)
 have ha:=xbO (-1) (l.take n) (l.drop n) hl
 rw[List.take_append_drop,h1] at ha
 refine xjQ _ (-1) (l.drop n) ha.symm ?_
 have key:∀ (m:List En) (p:Int),-1≤p→(∀ e ∈ m,xa1 e)→xcX p m=0→-1≤m.foldl (fun _ e=>laN e) p:=by
  intro m
  induction m with
  | nil=>intro p hp _ _;exact hp
  | cons e m ih =>
   intro p hp hm' hr
   obtain⟨c1,c2,c3⟩:=xbZ p e m hr
   have:=xn5 e (hm' e (List.mem_cons_self ..)) c1
   exact ih (laN e) (by omega) (fun x hx=>hm' x (List.mem_cons_of_mem _ hx)) c3
 exact key _ _ (by omega) (fun e he=>hm e (List.mem_of_mem_take he)) hl
end Go.Proofs.YtjkgkmmkehnggaaGreatDoor
