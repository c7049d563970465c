/- bMG bMH bMS. -/
import Derived.Test.YtdnmgpcfgcidbaaGreatDoorWb1
namespace Go.Proofs.YtdnmgpcfgcidbaaGreatDoor
set_option linter.unusedVariables false
set_option linter.unusedSimpArgs false
def gE (l:List En) (k:Nat):En:=l.getD k zeroE
def nxE (l:List En) (k:Nat):Int:=((gE l k).off+(gE l k).ln) % 18446744073709551616
def colN (l:List En) (c k:Nat):Int :=
 if c=0 then (if k=0 then (gE l 0).id else ((gE l k).id-(gE l (k-1)).id) % 18446744073709551616)
 else if c=1 then (gE l k).rn else if c=2 then (gE l k).ln
 else if 0<k∧(gE l k).off=nxE l (k-1) then 0 else ((gE l k).off+1) % 18446744073709551616
def wrgN (l:List En) (c k:Nat) (x:Int):Int :=
 if c=0∧0<k∧18446744073709551616≤(gE l (k-1)).id+x then 11
 else if (c=1∨c=2)∧4294967295<x then 11
 else if c=3∧k=0∧x=0 then 4
 else if c=3∧0<k∧0<x∧x-1=nxE l (k-1) then 4 else 0
def putF (l:List En) (c k:Nat) (x:Int):En :=
 if c=0 then { gE l k with id:=if 0<k then ((gE l (k-1)).id+x) % 18446744073709551616 else x }
 else if c=1 then { gE l k with rn:=x % 4294967296 }
 else if c=2 then { gE l k with ln:=x % 4294967296 }
 else { gE l k with off:=if x=0 then nxE l (k-1) else x-1 }
def putN (l:List En) (c k:Nat) (x:Int):List En:=l.set k (putF l c k x)
theorem putN_len (l:List En) (c k:Nat) (x:Int):(putN l c k x).length=l.length:=by simp [putN]
theorem gE_put (l:List En) (c k:Nat) (x:Int) (j:Nat) (hk:k<l.length):gE (putN l c k x) j=if j=k then putF l c k x else gE l j:=by
 unfold gE putN
 rw [List.getD_eq_getElem?_getD,List.getD_eq_getElem?_getD,List.getElem?_set]
 by_cases h:j=k
 ·subst h;simp [hk]
 ·rw [if_neg (fun e=>h e.symm),if_neg h]
theorem col0 (l:List En) (k:Nat):colN l 0 k=if k=0 then (gE l 0).id else ((gE l k).id-(gE l (k-1)).id) % 18446744073709551616:=by simp [colN]
theorem col1 (l:List En) (k:Nat):colN l 1 k=(gE l k).rn:=by simp [colN]
theorem col2 (l:List En) (k:Nat):colN l 2 k=(gE l k).ln:=by simp [colN]
theorem col3 (l:List En) (k:Nat):colN l 3 k=if 0<k∧(gE l k).off=nxE l (k-1) then 0 else ((gE l k).off+1) % 18446744073709551616:=by simp [colN]
theorem put0 (l:List En) (k:Nat) (x:Int):putF l 0 k x={ gE l k with id:=if 0<k then ((gE l (k-1)).id+x) % 18446744073709551616 else x }:=by simp [putF]
theorem put1 (l:List En) (k:Nat) (x:Int):putF l 1 k x={ gE l k with rn:=x % 4294967296 }:=by simp [putF]
theorem put2 (l:List En) (k:Nat) (x:Int):putF l 2 k x={ gE l k with ln:=x % 4294967296 }:=by simp [putF]
theorem put3 (l:List En) (k:Nat) (x:Int):putF l 3 k x={ gE l k with off:=if x=0 then nxE l (k-1) else x-1 }:=by simp [putF]
def Agr (n:Nat) (l m:List En) (i:Nat):Prop:=∀ j,j<n→(j<i→(gE l j).id=(gE m j).id)∧(n+j<i→(gE l j).rn=(gE m j).rn)∧(2*n+j<i→(gE l j).ln=(gE m j).ln)∧(3*n+j<i→(gE l j).off=(gE m j).off)
theorem Agr.all {n:Nat} {l m:List En} (h:Agr n l m (4*n)) (hl:l.length=n) (hm:m.length=n):l=m:=by
 apply List.ext_getElem (by omega)
 intro j h1 h2
 have a:=h j (by omega)
 have e1:gE l j=l[j]:=by unfold gE;rw [List.getD_eq_getElem?_getD,List.getElem?_eq_getElem h1];rfl
 have e2:gE m j=m[j]:=by unfold gE;rw [List.getD_eq_getElem?_getD,List.getElem?_eq_getElem h2];rfl
 rw [← e1,← e2,En.eq_iff]
 exact ⟨a.1 (by omega),a.2.2.2 (by omega),a.2.2.1 (by omega),a.2.1 (by omega)⟩
theorem cases4 {n i:Nat} (h:i<4*n):(i / n=0∧i % n=i∧i<n)∨(i / n=1∧i=n+i % n∧i % n<n)∨(i / n=2∧i=2*n+i % n∧i % n<n)∨(i / n=3∧i=3*n+i % n∧i % n<n):=by
 have hn:0<n:=by omega
 have h1:i / n<4:=(Nat.div_lt_iff_lt_mul hn).2 h
 have h2:=Nat.mod_lt i hn
 have h3:=Nat.div_add_mod i n
 generalize i / n=c at h1 h3 ⊢
 generalize i % n=k at h2 h3 ⊢
 rcases (show c=0∨c=1∨c=2∨c=3 by omega) with rfl|rfl|rfl|rfl
 ·exact .inl ⟨rfl,by omega,by omega⟩
 ·exact .inr (.inl ⟨rfl,by omega,h2⟩)
 ·exact .inr (.inr (.inl ⟨rfl,by omega,h2⟩))
 ·exact .inr (.inr (.inr ⟨rfl,by omega,h2⟩))
theorem col_agr {n:Nat} {l m:List En} {i j:Nat} (h:Agr n l m i) (hj:j<i) (hi:j<4*n):colN l (j / n) (j % n)=colN m (j / n) (j % n):=by
 rcases cases4 hi with ⟨hc,hk,h1⟩|⟨hc,hk,h1⟩|⟨hc,hk,h1⟩|⟨hc,hk,h1⟩ <;> rw [hc] <;> generalize j % n=k at *
 ·rw [col0,col0,(h 0 (by omega)).1 (by omega),(h k (by omega)).1 (by omega),(h (k-1) (by omega)).1 (by omega)]
 ·rw [col1,col1];exact (h k h1).2.1 (by omega)
 ·rw [col2,col2];exact (h k h1).2.2.1 (by omega)
 ·rw [col3,col3,(h k h1).2.2.2 (by omega)]
  by_cases h0:0<k
  ·have e:nxE l (k-1)=nxE m (k-1):=by
    unfold nxE
    rw [(h (k-1) (by omega)).2.2.2 (by omega),(h (k-1) (by omega)).2.2.1 (by omega)]
   rw [e]
  ·simp [h0]
theorem put_agr {n:Nat} {l:List En} (x:Int) {i:Nat} (hl:l.length=n) (hi:i<4*n):Agr n l (putN l (i / n) (i % n) x) i:=by
 intro j hj
 have hk:i % n<l.length:=by rw [hl];exact Nat.mod_lt _ (by omega)
 rw [gE_put _ _ _ _ _ hk]
 by_cases e:j=i % n
 ·rw [if_pos e]
  rcases cases4 hi with ⟨hc,h0,h1⟩|⟨hc,h0,h1⟩|⟨hc,h0,h1⟩|⟨hc,h0,h1⟩ <;> rw [hc] <;> generalize i % n=k at*<;> subst e <;> simp only [putF] <;> refine ⟨fun a=>?_,fun a=>?_,fun a=>?_,fun a=>?_⟩ <;> first|rfl|omega|simp
 ·rw [if_neg e]
  exact ⟨fun _=>rfl,fun _=>rfl,fun _=>rfl,fun _=>rfl⟩
theorem put_right {n:Nat} {l m:List En} {i:Nat} (hl:l.length=n) (hi:i<4*n) (hm:∀ j,j<n→MayN (gE m j)∧(gE m j).off≤1099511627776) (h:Agr n l m i):Agr n (putN l (i / n) (i % n) (colN m (i / n) (i % n))) m (i+1):=by
 intro j hj
 have hk:i % n<l.length:=by rw [hl];exact Nat.mod_lt _ (by omega)
 rw [gE_put _ _ _ _ _ hk]
 have a:=h j hj
 by_cases e:j=i % n
 ·rw [if_pos e]
  have b:=hm j hj
  unfold MayN at b
  rcases cases4 hi with ⟨hc,h0,h1⟩|⟨hc,h0,h1⟩|⟨hc,h0,h1⟩|⟨hc,h0,h1⟩ <;> rw [hc] <;> generalize i % n=k at*<;> subst e
  ·refine ⟨fun _=>?_,fun q=>by omega,fun q=>by omega,fun q=>by omega⟩
   rw [put0,col0]
   simp only
   by_cases h2:j=0
   ·subst h2;simp
   ·rw [if_pos (by omega),if_neg h2,(h (j-1) (by omega)).1 (by omega)]
    have:=hm (j-1) (by omega)
    unfold MayN at this
    omega
  ·refine ⟨fun q=>a.1 (by omega),fun _=>?_,fun q=>by omega,fun q=>by omega⟩
   rw [put1,col1]
   simp only
   omega
  ·refine ⟨fun q=>a.1 (by omega),fun q=>a.2.1 (by omega),fun _=>?_,fun q=>by omega⟩
   rw [put2,col2]
   simp only
   omega
  ·refine ⟨fun q=>a.1 (by omega),fun q=>a.2.1 (by omega),fun q=>a.2.2.1 (by omega),fun _=>?_⟩
   rw [put3,col3]
   simp only
   by_cases h2:0<j∧(gE m j).off=nxE m (j-1)
   ·rw [if_pos h2,if_pos rfl,h2.2]
    unfold nxE
    rw [(h (j-1) (by omega)).2.2.2 (by omega),(h (j-1) (by omega)).2.2.1 (by omega)]
   ·rw [if_neg h2,if_neg (by omega)]
    omega
 ·rw [if_neg e]
  have hne:∀ q:Nat,q≤3→q*n+j=i→j=i % n:=by
   intro q _ hq
   rw [← hq,Nat.mul_comm,Nat.mul_add_mod,Nat.mod_eq_of_lt hj]
  refine ⟨fun q=>a.1 ?_,fun q=>a.2.1 ?_,fun q=>a.2.2.1 ?_,fun q=>a.2.2.2 ?_⟩
  ·have:¬ (0*n+j=i):=fun w=>e (hne 0 (by omega) w)
   omega
  ·have:¬ (1*n+j=i):=fun w=>e (hne 1 (by omega) w)
   omega
  ·have:¬ (2*n+j=i):=fun w=>e (hne 2 (by omega) w)
   omega
  ·have:¬ (3*n+j=i):=fun w=>e (hne 3 (by omega) w)
   omega
def RowE (n:Nat) (m:List En):Prop:=(∀ j,j<n→MayN (gE m j)∧(gE m j).off≤1099511627776)∧∀ j,j+1<n→(gE m j).id<(gE m (j+1)).id
theorem rowE_gap (p:Int) (l:List En) (h:rowG p l=0) (hm:∀ e ∈ l,MayN e) (j:Nat) (hj:j+1<l.length):(gE l j).id<(gE l (j+1)).id:=by
 induction l generalizing p j with
 | nil=>simp at hj
 | cons e l ih =>
  have a:=rowG_cons p e l h
  cases j with
  | zero =>
   cases l with
   | nil=>simp at hj
   | cons e' l' =>
    have b:=rowG_cons _ _ _ a.2.2
    have c:=la_ge e (hm e (List.mem_cons_self ..)) a.1
    show e.id<e'.id
    omega
  | succ j=>exact ih (laN e) a.2.2 (fun x hx=>hm x (List.mem_cons_of_mem _ hx)) j (by simpa using hj)
theorem gE_mem (l:List En) (j:Nat) (hj:j<l.length):gE l j ∈ l:=by
 unfold gE
 rw [List.getD_eq_getElem?_getD,List.getElem?_eq_getElem hj]
 exact List.getElem_mem hj
theorem rowE_of (l:List En) (hm:∀ e ∈ l,MayN e) (h:rowN l=0):RowE l.length l:=by
 unfold rowN at h
 split at h
 ·omega
 refine ⟨fun j hj=>⟨hm _ (gE_mem l j hj),?_⟩,fun j hj=>rowE_gap _ l h hm j hj⟩
 exact (ck_ok _ (rowG_above _ l hm h _ (gE_mem l j hj)).2).2.2.2.2
theorem wrg_right {n:Nat} {l m:List En} {i:Nat} (hi:i<4*n) (hm:RowE n m) (h:Agr n l m i):wrgN l (i / n) (i % n) (colN m (i / n) (i % n))=0:=by
 obtain ⟨h1,h2⟩:=hm
 unfold MayN at h1
 rcases cases4 hi with ⟨hc,h0,hk⟩|⟨hc,h0,hk⟩|⟨hc,h0,hk⟩|⟨hc,h0,hk⟩ <;> rw [hc] <;> generalize i % n=k at *
 ·rw [col0]
  unfold wrgN
  rw [if_neg,if_neg (by omega),if_neg (by omega),if_neg (by omega)]
  rintro ⟨-,hk0,hb⟩
  rw [if_neg (by omega),(h (k-1) (by omega)).1 (by omega)] at hb
  have a:=h1 k (by omega)
  have b:=h1 (k-1) (by omega)
  have c:=h2 (k-1) (by omega)
  rw [show k-1+1=k from by omega] at c
  omega
 ·rw [col1]
  have a:=h1 k hk
  unfold wrgN
  rw [if_neg (by omega),if_neg (by omega),if_neg (by omega),if_neg (by omega)]
 ·rw [col2]
  have a:=h1 k hk
  unfold wrgN
  rw [if_neg (by omega),if_neg (by omega),if_neg (by omega),if_neg (by omega)]
 ·rw [col3]
  have a:=h1 k hk
  unfold wrgN
  rw [if_neg (by omega),if_neg (by omega)]
  by_cases hz:0<k∧(gE m k).off=nxE m (k-1)
  ·rw [if_pos hz,if_neg (by omega),if_neg (by omega)]
  ·rw [if_neg hz,if_neg (by omega),if_neg]
   rintro ⟨-,hk0,-,he⟩
   refine hz ⟨hk0,?_⟩
   have e:nxE l (k-1)=nxE m (k-1):=by
    unfold nxE
    rw [(h (k-1) (by omega)).2.2.2 (by omega),(h (k-1) (by omega)).2.2.1 (by omega)]
   rw [e] at he
   omega
theorem col_bd {n:Nat} {m:List En} {i:Nat} (hi:i<4*n) (hm:∀ j,j<n→MayN (gE m j)):0≤colN m (i / n) (i % n)∧colN m (i / n) (i % n)≤18446744073709551615:=by
 unfold MayN at hm
 rcases cases4 hi with ⟨hc,h0,hk⟩|⟨hc,h0,hk⟩|⟨hc,h0,hk⟩|⟨hc,h0,hk⟩ <;> rw [hc] <;> generalize i % n=k at *
 ·rw [col0]
  have:=hm 0 (by omega)
  split <;> omega
 ·rw [col1];have:=hm k hk;omega
 ·rw [col2];have:=hm k hk;omega
 ·rw [col3];split <;> omega
theorem put_col {n:Nat} {l:List En} {i:Nat} {x:Int} (hl:l.length=n) (hi:i<4*n) (hm:∀ j,j<n→MayN (gE l j)) (hx:0≤x∧x≤18446744073709551615) (h:wrgN l (i / n) (i % n) x=0):colN (putN l (i / n) (i % n) x) (i / n) (i % n)=x:=by
 have hk':i % n<l.length:=by rw [hl];exact Nat.mod_lt _ (by omega)
 have he:=fun j=>gE_put l (i / n) (i % n) x j hk'
 generalize putN l (i / n) (i % n) x=l' at *
 unfold MayN at hm
 rcases cases4 hi with ⟨hc,h0,hk⟩|⟨hc,h0,hk⟩|⟨hc,h0,hk⟩|⟨hc,h0,hk⟩ <;> rw [hc] at h he ⊢ <;> generalize i % n=k at*<;> unfold wrgN at h <;> have e1:=he k <;> rw [if_pos rfl] at e1
 ·rw [col0]
  rw [put0] at e1
  by_cases z:k=0
  ·rw [if_pos z]
   subst z
   rw [e1]
   simp
  ·have e2:=he (k-1)
   rw [if_neg (show ¬ (k-1=k) by omega)] at e2
   rw [if_neg z,e1,e2]
   simp only
   have:=hm (k-1) (by omega)
   rw [if_pos (show 0<k by omega)]
   split at h
   ·omega
   ·omega
 ·rw [col1,e1,put1]
  simp only
  split at h
  ·omega
  split at h
  ·omega
  omega
 ·rw [col2,e1,put2]
  simp only
  split at h
  ·omega
  split at h
  ·omega
  omega
 ·rw [put3] at e1
  rw [col3,e1]
  simp only
  split at h
  ·omega
  split at h
  ·omega
  split at h
  ·omega
  rename_i g3
  split at h
  ·omega
  rename_i g4
  by_cases z:0<k
  ·have e:nxE l' (k-1)=nxE l (k-1):=by
    have e2:=he (k-1)
    rw [if_neg (show ¬ (k-1=k) by omega)] at e2
    unfold nxE
    rw [e2]
   rw [e]
   by_cases z1:x=0
   ·rw [if_pos z1,if_pos ⟨z,rfl⟩,z1]
   ·rw [if_neg z1,if_neg (by rintro ⟨-,q⟩;exact g4 ⟨rfl,z,by omega,q⟩)]
    omega
  ·rw [if_neg (by rintro ⟨q,-⟩;exact z q),if_neg (by omega)]
   omega
theorem put_may {n:Nat} {l:List En} {i:Nat} {x:Int} (hl:l.length=n) (hi:i<4*n) (hm:∀ j,j<n→MayN (gE l j)) (hx:0≤x∧x≤18446744073709551615):∀ j,j<n→MayN (gE (putN l (i / n) (i % n) x) j):=by
 intro j hj
 have hk':i % n<l.length:=by rw [hl];exact Nat.mod_lt _ (by omega)
 rw [gE_put _ _ _ _ _ hk']
 split
 ·have a:=hm (i % n) (by omega)
  unfold MayN at a ⊢
  rcases cases4 hi with ⟨hc,h0,hk⟩|⟨hc,h0,hk⟩|⟨hc,h0,hk⟩|⟨hc,h0,hk⟩ <;> rw [hc] <;> generalize i % n=k at *
  ·rw [put0];simp only;split <;> omega
  ·rw [put1];simp only;omega
  ·rw [put2];simp only;omega
  ·rw [put3];simp only;unfold nxE;split <;> omega
 ·exact hm j hj
def encU (x:Int):List UInt8:=(enc x).map ub
theorem encU_len (x:Int):1≤(encU x).length∧(encU x).length≤10:=by
 unfold encU;rw [List.length_map];exact enc_len x
def tailT (L:List En) (n:Nat):Nat→Nat→List UInt8
 | 0,_=>[]
 | m+1,i=>encU (colN L (i / n) (i % n))++tailT L n m (i+1)
theorem tailT_len (L:List En) (n m i:Nat):(tailT L n m i).length≤10*m:=by
 induction m generalizing i with
 | zero=>simp [tailT]
 | succ m ih =>
  rw [tailT,List.length_append]
  have:=ih (i+1)
  have:=encU_len (colN L (i / n) (i % n))
  omega
def textD (l:List En):List UInt8:=encU l.length++tailT l l.length (4*l.length) 0
def goD (t:List UInt8) (n:Nat):Nat→Nat→List En→Nat→List En × Nat × Int
 | 0,_,l,a=>(l,a,0)
 | m+1,i,l,a =>
  if errV (t.drop a)≠0 then ([],a,errV (t.drop a)) else
  if wrgN l (i / n) (i % n) (valV (t.drop a))≠0 then ([],a,wrgN l (i / n) (i % n) (valV (t.drop a))) else
  goD t n m (i+1) (putN l (i / n) (i % n) (valV (t.drop a))) (a+(lead 10 (t.drop a)+1))
theorem goD_laid {n:Nat} {L:List En} (hL:L.length=n) (hr:RowE n L) (r:List UInt8):∀ (m i:Nat) (l:List En) (pre:List UInt8),i+m=4*n→l.length=n→Agr n l L i →
  goD (pre++(tailT L n m i++r)) n m i l pre.length=(L,(pre++tailT L n m i).length,0):=by
 intro m
 induction m with
 | zero =>
  intro i l pre hi hl ha
  rw [show i=4*n from by omega] at ha
  rw [ha.all hl hL]
  simp [goD,tailT]
 | succ m ih =>
  intro i l pre hi hl ha
  have hb:=col_bd (i:=i) (by omega) (fun j hj=>(hr.1 j hj).1)
  obtain ⟨e1,e2,e3⟩:=enc_read _ hb.1 hb.2 (tailT L n m (i+1)++r)
  have hd:(pre++(tailT L n (m+1) i++r)).drop pre.length=(enc (colN L (i / n) (i % n))).map ub++(tailT L n m (i+1)++r):=by
   rw [List.drop_left,tailT,List.append_assoc];rfl
  rw [goD,hd,e1,e3,if_neg (by simp),if_neg (by rw [wrg_right (by omega) hr ha];simp)]
  have hz:pre.length+(lead 10 ((enc (colN L (i / n) (i % n))).map ub++(tailT L n m (i+1)++r))+1)=(pre++encU (colN L (i / n) (i % n))).length:=by
   unfold cntV at e2
   rw [List.length_append]
   unfold encU
   rw [List.length_map]
   omega
  rw [hz]
  have hq:pre++(tailT L n (m+1) i++r)=(pre++encU (colN L (i / n) (i % n)))++(tailT L n m (i+1)++r):=by
   rw [tailT];simp only [List.append_assoc]
  rw [hq,ih (i+1) _ _ (by omega) (by rw [putN_len,hl]) (put_right hl (by omega) hr.1 ha),tailT]
  simp only [List.append_assoc]
theorem goD_back (t:List UInt8) (n:Nat):∀ (m i:Nat) (l:List En) (a:Nat),i+m=4*n→l.length=n→(∀ j,j<n→MayN (gE l j))→a≤t.length→(goD t n m i l a).2.2=0 →
  Agr n l (goD t n m i l a).1 i∧(goD t n m i l a).1.length=n∧(∀ j,j<n→MayN (gE (goD t n m i l a).1 j))∧a≤(goD t n m i l a).2.1∧(goD t n m i l a).2.1≤t.length∧(t.drop a).take ((goD t n m i l a).2.1-a)=tailT (goD t n m i l a).1 n m i:=by
 intro m
 induction m with
 | zero =>
  intro i l a hi hl hm ha h
  simp [goD,tailT,hl,ha]
  exact ⟨fun j _=>⟨fun _=>rfl,fun _=>rfl,fun _=>rfl,fun _=>rfl⟩,hm⟩
 | succ m ih =>
  intro i l a hi hl hm ha h
  rw [goD] at h ⊢
  by_cases he:¬ errV (t.drop a)=0
  ·rw [if_pos he] at h;exact absurd h he
  have he:=Classical.not_not.1 he
  rw [if_neg (by simpa using he)] at h ⊢
  by_cases hw:¬ wrgN l (i / n) (i % n) (valV (t.drop a))=0
  ·rw [if_pos hw] at h;exact absurd h hw
  have hw:=Classical.not_not.1 hw
  rw [if_neg (by simpa using hw)] at h ⊢
  have hx:=valV_bd _ he
  have hk:=(errV_ok _ he).2.1
  rw [List.length_drop] at hk
  have hp:=put_col hl (by omega) hm hx hw
  have q:=ih (i+1) (putN l (i / n) (i % n) (valV (t.drop a))) (a+(lead 10 (t.drop a)+1)) (by omega) (by rw [putN_len,hl]) (put_may hl (by omega) hm hx) (by omega) h
  generalize goD t n m (i+1) (putN l (i / n) (i % n) (valV (t.drop a))) (a+(lead 10 (t.drop a)+1))=R at q ⊢
  obtain ⟨L,b,e⟩:=R
  obtain ⟨q1,q2,q3,q4,q5,q6⟩:=q
  simp only at q1 q2 q3 q4 q5 q6 ⊢
  have hA:=put_agr (valV (t.drop a)) hl (show i<4*n by omega)
  refine ⟨fun j hj=>?_,q2,q3,by omega,q5,?_⟩
  ·have u:=hA j hj
   have v:=q1 j hj
   exact ⟨fun z=>(u.1 z).trans (v.1 (by omega)),fun z=>(u.2.1 z).trans (v.2.1 (by omega)),fun z=>(u.2.2.1 z).trans (v.2.2.1 (by omega)),fun z=>(u.2.2.2 z).trans (v.2.2.2 (by omega))⟩
  ·have hc:=col_agr q1 (Nat.lt_succ_self i) (show i<4*n by omega)
   rw [tailT,← hc,hp,← q6]
   have hen:encU (valV (t.drop a))=(t.drop a).take (lead 10 (t.drop a)+1):=by
    unfold encU
    rw [read_back _ he,List.map_map]
    conv=>rhs;rw [← List.map_id ((t.drop a).take (lead 10 (t.drop a)+1))]
    exact List.map_congr_left fun c _=>ub_back c
   rw [hen,← List.drop_drop]
   generalize t.drop a=T at *
   rw [show b-a=(lead 10 T+1)+(b-(a+(lead 10 T+1))) from by omega,List.take_add]
def zerosE (n:Nat):List En:=List.replicate n zeroE
theorem gE_zeros (n j:Nat):gE (zerosE n) j=zeroE:=by
 unfold gE zerosE
 rw [List.getD_eq_getElem?_getD,List.getElem?_replicate]
 split <;> rfl
theorem zeros_agr (n:Nat) (L:List En):Agr n (zerosE n) L 0:=fun j _=>⟨fun h=>absurd h (by omega),fun h=>absurd h (by omega),fun h=>absurd h (by omega),fun h=>absurd h (by omega)⟩
theorem zeros_may (n:Nat):∀ j,j<n→MayN (gE (zerosE n) j):=by
 intro j _
 rw [gE_zeros]
 unfold MayN zeroE
 simp
def decD (t:List UInt8):List En × Nat × Int :=
 if 65536<t.length then ([],0,5) else
 if errV t≠0 then ([],0,errV t) else
 if 4096<valV t then ([],0,21) else
 if (goD t (valV t).toNat (4*(valV t).toNat) 0 (zerosE (valV t).toNat) (lead 10 t+1)).2.2≠0 then goD t (valV t).toNat (4*(valV t).toNat) 0 (zerosE (valV t).toNat) (lead 10 t+1) else
 if (goD t (valV t).toNat (4*(valV t).toNat) 0 (zerosE (valV t).toNat) (lead 10 t+1)).2.1<t.length then ([],(goD t (valV t).toNat (4*(valV t).toNat) 0 (zerosE (valV t).toNat) (lead 10 t+1)).2.1,4) else
 if rowN (goD t (valV t).toNat (4*(valV t).toNat) 0 (zerosE (valV t).toNat) (lead 10 t+1)).1≠0 then ([],t.length,rowN (goD t (valV t).toNat (4*(valV t).toNat) 0 (zerosE (valV t).toNat) (lead 10 t+1)).1) else
 ((goD t (valV t).toNat (4*(valV t).toNat) 0 (zerosE (valV t).toNat) (lead 10 t+1)).1,t.length,0)
theorem textD_len (l:List En):1≤(textD l).length∧(textD l).length≤10+40*l.length:=by
 unfold textD
 rw [List.length_append]
 have:=encU_len l.length
 have:=tailT_len l l.length (4*l.length) 0
 omega
theorem rowN_len {l:List En} (h:rowN l=0):l.length≤4096:=by
 unfold rowN at h
 split at h <;> omega
theorem decD_go (l:List En) (hm:∀ e ∈ l,MayN e) (h:rowN l=0) (r:List UInt8) :
  errV (textD l++r)=0∧(valV (textD l++r)).toNat=l.length∧valV (textD l++r)=l.length ∧
  goD (textD l++r) l.length (4*l.length) 0 (zerosE l.length) (lead 10 (textD l++r)+1)=(l,(textD l).length,0):=by
 have hn:=rowN_len h
 obtain ⟨e1,e2,e3⟩:=enc_read l.length (by omega) (by omega) (tailT l l.length (4*l.length) 0++r)
 have ht:textD l++r=encU l.length++(tailT l l.length (4*l.length) 0++r):=by unfold textD;rw [List.append_assoc]
 change errV (encU _++_)=_ at e1
 change cntV (encU _++_)=_ at e2
 change valV (encU _++_)=_ at e3
 rw [← ht] at e1 e2 e3
 have hg:=goD_laid (n:=l.length) rfl (rowE_of l hm h) r (4*l.length) 0 (zerosE l.length) (encU l.length) (by omega) (by simp [zerosE]) (zeros_agr _ _)
 refine ⟨e1,by rw [e3];simp,e3,?_⟩
 have hz:lead 10 (textD l++r)+1=(encU (l.length:Int)).length:=by
  unfold cntV at e2
  have:(encU (l.length:Int)).length=(enc (l.length:Int)).length:=by unfold encU;rw [List.length_map]
  omega
 rw [hz]
 rw [← ht] at hg
 exact hg
theorem decD_text (l:List En) (hm:∀ e ∈ l,MayN e) (h:rowN l=0) (hl:(textD l).length≤65536):decD (textD l)=(l,(textD l).length,0):=by
 obtain ⟨e1,e2,e3,e4⟩:=decD_go l hm h []
 rw [List.append_nil] at e1 e2 e3 e4
 have:=rowN_len h
 unfold decD
 rw [e2,e4]
 simp only
 rw [if_neg (by omega),e1,if_neg (by simp),e3,if_neg (by omega),if_neg (by simp),if_neg (by omega),if_neg (by rw [h];simp)]
theorem decD_back (t:List UInt8) (h:(decD t).2.2=0):rowN (decD t).1=0∧(∀ e ∈ (decD t).1,MayN e)∧textD (decD t).1=t∧(decD t).2.1=t.length∧t.length≤65536:=by
 unfold decD at h ⊢
 by_cases h1:65536<t.length
 ·rw [if_pos h1] at h;simp at h
 rw [if_neg h1] at h ⊢
 by_cases h2:¬ errV t=0
 ·rw [if_pos h2] at h;exact absurd h h2
 have h2:=Classical.not_not.1 h2
 rw [if_neg (by simpa using h2)] at h ⊢
 by_cases h3:4096<valV t
 ·rw [if_pos h3] at h;simp at h
 rw [if_neg h3] at h ⊢
 have hx:=valV_bd _ h2
 have hk:=(errV_ok _ h2).2.1
 have hb:=read_back _ h2
 obtain ⟨n,hn⟩:∃ n:Nat,valV t=n:=⟨(valV t).toNat,by omega⟩
 rw [hn] at h ⊢
 rw [hn] at hb
 simp only [Int.toNat_natCast] at h ⊢
 have q:=goD_back t n (4*n) 0 (zerosE n) (lead 10 t+1) (by omega) (by simp [zerosE]) (zeros_may n) (by omega)
 generalize goD t n (4*n) 0 (zerosE n) (lead 10 t+1)=R at *
 obtain ⟨L,b,e⟩:=R
 simp only at h q ⊢
 by_cases h4:¬ e=0
 ·rw [if_pos h4] at h;exact absurd h h4
 have h4:=Classical.not_not.1 h4
 rw [if_neg (by simpa using h4)] at h ⊢
 by_cases h5:b<t.length
 ·rw [if_pos h5] at h;simp at h
 rw [if_neg h5] at h ⊢
 by_cases h6:¬ rowN L=0
 ·rw [if_pos h6] at h;exact absurd h h6
 have h6:=Classical.not_not.1 h6
 rw [if_neg (by simpa using h6)]
 obtain ⟨q1,q2,q3,q4,q5,q6⟩:=q h4
 refine ⟨h6,?_,?_,rfl,by omega⟩
 ·intro x hx'
  change x ∈ L at hx'
  obtain ⟨j,hj,rfl⟩:=List.getElem_of_mem hx'
  have:=q3 j (by omega)
  unfold gE at this
  rwa [List.getD_eq_getElem?_getD,List.getElem?_eq_getElem hj] at this
 ·simp only
  unfold textD
  rw [q2,← q6]
  have hen:encU (n:Int)=t.take (lead 10 t+1):=by
   unfold encU
   rw [hb,List.map_map]
   conv=>rhs;rw [← List.map_id (t.take (lead 10 t+1))]
   exact List.map_congr_left fun c _=>ub_back c
  have hd:(t.drop (lead 10 t+1)).take (b-(lead 10 t+1))=t.drop (lead 10 t+1):=List.take_of_length_le (by rw [List.length_drop];omega)
  rw [hen,hd,List.take_append_drop]
def colsI (l:List En) (c:Nat):Nat→List Int
 | 0=>[]
 | k+1=>colsI l c k++enc (colN l c k)
def textI (l:List En):List Int:=enc l.length++(colsI l 0 l.length++(colsI l 1 l.length++(colsI l 2 l.length++colsI l 3 l.length)))
theorem tailT_add (L:List En) (n m1 m2 i:Nat):tailT L n (m1+m2) i=tailT L n m1 i++tailT L n m2 (i+m1):=by
 induction m1 generalizing i with
 | zero=>simp [tailT]
 | succ m ih =>
  rw [show m+1+m2=(m+m2)+1 from by omega,tailT,tailT,ih,List.append_assoc,show i+1+m=i+(m+1) from by omega]
theorem tailT_cols (L:List En) (n c m:Nat) (hm:m≤n):tailT L n m (c*n)=(colsI L c m).map ub:=by
 induction m with
 | zero=>rfl
 | succ m ih =>
  rw [tailT_add,ih (by omega),colsI,List.map_append]
  have e1:(c*n+m) / n=c:=by rw [Nat.mul_comm,Nat.mul_add_div (by omega),Nat.div_eq_of_lt (by omega)];omega
  have e2:(c*n+m) % n=m:=by rw [Nat.mul_comm,Nat.mul_add_mod,Nat.mod_eq_of_lt (by omega)]
  simp only [tailT,e1,e2,List.append_nil]
  rfl
theorem textD_cols (l:List En):textD l=(textI l).map ub:=by
 unfold textD textI
 have h0:=tailT_cols l l.length 0 l.length (Nat.le_refl _)
 have h1:=tailT_cols l l.length 1 l.length (Nat.le_refl _)
 have h2:=tailT_cols l l.length 2 l.length (Nat.le_refl _)
 have h3:=tailT_cols l l.length 3 l.length (Nat.le_refl _)
 rw [show 4*l.length=l.length+(l.length+(l.length+l.length)) from by omega,tailT_add,tailT_add,tailT_add]
 simp only [Nat.zero_mul,Nat.one_mul,Nat.zero_add] at h0 h1 ⊢
 rw [show l.length+l.length=2*l.length from by omega,show 2*l.length+l.length=3*l.length from by omega,h0,h1,h2,h3]
 simp only [List.map_append]
 rfl
theorem textI_len (l:List En):(textI l).length=(textD l).length:=by rw [textD_cols,List.length_map]
end Go.Proofs.YtdnmgpcfgcidbaaGreatDoor
namespace Go.Proofs.YtdnmgpcfgcidbaaGreatDoor
set_option linter.unusedVariables false
set_option linter.unusedSimpArgs false
open Go.RowKit
set_option maxRecDepth 20000
open Go.RowKit
set_option maxRecDepth 20000
def encB (l:List En):Int:=if rowN l=0 then (if 65536<(textI l).length then 5 else 0) else rowN l
def encT (l:List En):ByteArray:=if encB l=0 then str (textI l) else ByteArray.mk #[]
def sizD (l:List En):Int:=if rowN l=0 then (textI l).length else 0
end Go.Proofs.YtdnmgpcfgcidbaaGreatDoor
namespace Go.Proofs.YtdnmgpcfgcidbaaGreatDoor
set_option linter.unusedVariables false
set_option linter.unusedSimpArgs false
def gS (l:List En) (k:Nat):En:=l.getD k zeroE
theorem gS_get (l:List En) (k:Nat) (h:k<l.length):l[k]?=some (gS l k):=by
 rw [List.getElem?_eq_getElem h,gS,List.getD_eq_getElem?_getD,List.getElem?_eq_getElem h];rfl
theorem gS_mem (l:List En) (k:Nat) (h:k<l.length):gS l k ∈ l:=List.mem_of_getElem? (gS_get l k h)
def leavesN (l:List En):List En:=l.filter fun e=>decide (e.rn=0)
theorem row_G {l:List En} (h:rowN l=0):rowG (-1) l=0∧l.length≤4096:=by
 unfold rowN at h
 split at h
 ·omega
 ·exact ⟨h,by omega⟩
theorem row_take {l:List En} (h:rowN l=0) (n:Nat):rowN (l.take n)=0:=by
 obtain ⟨h1,h2⟩:=row_G h
 unfold rowN
 rw [if_neg (by rw [List.length_take];omega)]
 exact rowG_left (-1) (l.take n) (l.drop n) (by rw [List.take_append_drop];exact h1)
theorem row_drop {l:List En} (hm:∀ e ∈ l,MayN e) (h:rowN l=0) (n:Nat):rowN (l.drop n)=0:=by
 obtain ⟨h1,h2⟩:=row_G h
 unfold rowN
 rw [if_neg (by rw [List.length_drop];omega)]
 have hl:=rowG_left (-1) (l.take n) (l.drop n) (by rw [List.take_append_drop];exact h1)
 have ha:=rowG_append (-1) (l.take n) (l.drop n) hl
 rw [List.take_append_drop,h1] at ha
 refine rowG_from _ (-1) (l.drop n) ha.symm ?_
 have key:∀ (m:List En) (p:Int),-1≤p→(∀ e ∈ m,MayN e)→rowG p m=0→-1≤m.foldl (fun _ e=>laN e) p:=by
  intro m
  induction m with
  | nil=>intro p hp _ _;exact hp
  | cons e m ih =>
   intro p hp hm' hr
   obtain ⟨c1,c2,c3⟩:=rowG_cons p e m hr
   have:=la_ge e (hm' e (List.mem_cons_self ..)) c1
   exact ih (laN e) (by omega) (fun x hx=>hm' x (List.mem_cons_of_mem _ hx)) c3
 exact key _ _ (by omega) (fun e he=>hm e (List.mem_of_mem_take he)) hl
end Go.Proofs.YtdnmgpcfgcidbaaGreatDoor
