/- aMb aMc aFa aGa aLc aLe aLq aHa. -/
import Derived.Test.YtdnmgpcfgcidbaaGreatDoorWa1
namespace Go.Proofs.YtdnmgpcfgcidbaaGreatDoor
set_option linter.unusedVariables false
set_option linter.unusedSimpArgs false
set_option maxRecDepth 20000
structure RInv (P:List It) (rows:List En) (ts:List ByteArray):Prop where
 good:GoodP ts
 len:ts.length≤P.length
 mem:∀ s,s ∈ ts↔∃ t ∈ P,t.2=s
 ok:∀ e ∈ rows,OkE e ts
 row:rowG (-1) rows=0
 exp:expN rows (catF ts)=P
 one:NoOne rows
 few:rows.length≤P.length
 last:∀ r a,rows=r++[a]→∃ P' t,P=P'++[t]∧laN a=(t.1:Int)
theorem rinv_nil:RInv [] [] []:=⟨goodP_nil,Nat.le_refl _,by simp,by simp,rfl,rfl,noOne_nil,Nat.le_refl _,fun r a h=>by simp at h⟩
theorem la_ok {e:En} (h:ckN e=0) (hr:1≤e.rn):laN e=e.id+e.rn-1:=by
 unfold laN wdN
 rw [if_pos h,if_neg (by omega)]
theorem rowG_snoc (r:List En) (e:En) (p:Int) (h:rowG p r=0) (hck:ckN e=0) (hp:(r.foldl (fun _ e=>laN e) p)<e.id):rowG p (r++[e])=0:=by
 rw [rowG_append p r [e] h,rowG,if_neg (by simpa using hck),if_neg (by omega)]
 rfl
theorem rowG_snoc_inv (r:List En) (e:En) (p:Int) (h:rowG p (r++[e])=0):rowG p r=0∧ckN e=0∧(r.foldl (fun _ e=>laN e) p)<e.id:=by
 have h1:=rowG_left p r [e] h
 rw [rowG_append p r [e] h1] at h
 obtain ⟨h2,h3,_⟩:=rowG_cons _ e [] h
 exact ⟨h1,h2,h3⟩
theorem fold_snoc (r:List En) (a:En) (p:Int):(r++[a]).foldl (fun _ e=>laN e) p=laN a:=by simp
theorem rinv_step {P:List It} {rows:List En} {ts:List ByteArray} (h:RInv P rows ts) (t:It) (hr:∀ u ∈ P,u.1<t.1) (hlow:t.1<6004799503160661) (h0:0<t.2.size) (h1:t.2.size≤65536) (hf:P.length<2048) :
  RInv (P++[t]) (stepR (rows,ts) t).1 (stepR (rows,ts) t).2:=by
 have hl:ts.length<2048:=Nat.lt_of_le_of_lt h.len hf
 obtain ⟨hlen,hfind⟩:=new_place h0 h1 hl
 have hgood:=h.good.add t.2
 have hnl:=newL_len ts t.2
 have hmem:∀ s,s ∈ newL ts t.2↔∃ u ∈ P++[t],u.2=s:=by
  intro s
  rw [mem_newL ts t.2 s h0 h1 hl,h.mem]
  constructor
  ·rintro (⟨u,hu,he⟩|rfl)
   ·exact ⟨u,by simp [hu],he⟩
   ·exact ⟨t,by simp,rfl⟩
  ·rintro ⟨u,hu,he⟩
   rcases List.mem_append.1 hu with hu|hu
   ·exact .inl ⟨u,hu,he⟩
   ·rw [List.mem_singleton.1 hu] at he
    exact .inr he.symm
 have hexp:expN rows (catF (newL ts t.2))=P:=by rw [exp_grow h.ok,h.exp]
 have hok:∀ e ∈ rows,OkE e (newL ts t.2):=fun e he=>((h.ok e he).grow t.2).1
 have hle:=findF_le _ _ _ _ hfind
 have htot:=hgood.tot
 obtain ⟨e1,he1⟩:∃ e1,newE ts t=e1:=⟨_,rfl⟩
 have d1:e1.id=(t.1:Int):=by rw [← he1];rfl
 have d2:e1.off=(offA ts t.2:Int):=by rw [← he1];rfl
 have d3:e1.ln=(t.2.size:Int):=by rw [← he1];show ((lenA ts t.2:Nat):Int)=_;rw [hlen]
 have d4:e1.rn=1:=by rw [← he1];rfl
 have dck:ckN e1=0:=by
  unfold ckN cnN wdN
  rw [if_neg (by omega),if_neg (by rw [if_neg (by omega)];omega),if_neg (by omega)]
 have dla:laN e1=(t.1:Int):=by rw [la_ok dck (by omega)];omega
 have dok:OkE e1 (newL ts t.2):=⟨by unfold MayN;omega,dck,by omega,t.2,by rw [hfind,d2,Int.toNat_natCast],d3⟩
 have dtx:txN e1 (catF (newL ts t.2))=t.2:=ok_text (by rw [hfind,d2,Int.toNat_natCast]) d3
 have drun:runN e1 (catF (newL ts t.2))=[t]:=by
  unfold runN
  rw [d4,dtx,d1]
  show (List.range 1).map _=_
  simp
 show RInv (P++[t]) (addE rows (newE ts t)) (newL ts t.2)
 rw [he1]
 rcases List.eq_nil_or_concat rows with rfl|⟨r,a,rfl⟩
 ·have hP:P=[]:=by rw [← h.exp];rfl
  subst hP
  rw [addE_nil]
  refine ⟨hgood,by have h2:=h.len;simp only [List.length_nil,List.nil_append,List.length_singleton] at h2 ⊢;omega,hmem,by simpa using dok,?_,?_,?_,by simp,?_⟩
  ·exact rowG_snoc [] e1 (-1) rfl dck (by simp;omega)
  ·rw [expN_one,drun];rfl
  ·exact noOne_snoc noOne_nil (fun r a h=>by simp at h)
  ·intro r a h
   obtain ⟨_,rfl⟩:=List.append_inj' (show []++[e1]=r++[a] by simpa using h) rfl |>.imp id (fun h=>by simpa using h)
   exact ⟨[],t,rfl,dla⟩
 ·rw [List.concat_eq_append] at *
  obtain ⟨P',t0,hP,hla⟩:=h.last r a rfl
  have ha:=h.ok a (by simp)
  obtain ⟨hrow,hcka,hpa⟩:=rowG_snoc_inv r a (-1) h.row
  have hlt:t0.1<t.1:=hr t0 (by rw [hP];simp)
  have hlaa:=la_ok ha.ck ha.run
  have hrun:=ha.run
  have hmay:=ha.may
  have hrn:a.rn.toNat≤P.length:=by
   have:=congrArg List.length h.exp
   rw [expN_append,expN_one,List.length_append,runN_len] at this
   omega
  rw [addE_concat]
  by_cases hone:oneE a e1=true
  ·rw [if_pos hone]
   have hone':=of_decide_eq_true hone
   obtain ⟨o1,o2,o3⟩:=hone'
   obtain ⟨a2,ha2⟩:∃ a2:En,a2={ a with rn:=a.rn+1 }:=⟨_,rfl⟩
   have b1:a2.id=a.id:=by rw [ha2]
   have b2:a2.off=a.off:=by rw [ha2]
   have b3:a2.ln=a.ln:=by rw [ha2]
   have b4:a2.rn=a.rn+1:=by rw [ha2]
   rw [← ha2]
   clear ha2
   have hck:=ck_ok a ha.ck
   have hck2:ckN a2=0:=by
    unfold ckN cnN wdN
    rw [if_neg (by omega),if_neg (by rw [if_neg (by omega)];omega),if_neg (by omega)]
   have hla2:laN a2=(t.1:Int):=by rw [la_ok hck2 (by omega)];omega
   have haok:=hok a (by simp)
   have hok2:OkE a2 (newL ts t.2):=by
    obtain ⟨s,f1,f2⟩:=haok.txt
    unfold MayN at hmay
    exact ⟨by unfold MayN;omega,hck2,by omega,s,by rw [b2];exact f1,by rw [b3];exact f2⟩
   have htx2:txN a (catF (newL ts t.2))=t.2:=by
    have hx:txN a (catF (newL ts t.2))=txN e1 (catF (newL ts t.2)):=by unfold txN;rw [o2,o3]
    rw [hx]
    exact dtx
   have hrun2:runN a2 (catF (newL ts t.2))=runN a (catF (newL ts t.2))++[t]:=by
    have hx:txN a2 (catF (newL ts t.2))=t.2:=by
     have hy:txN a2 (catF (newL ts t.2))=txN a (catF (newL ts t.2)):=by unfold txN;rw [b2,b3]
     rw [hy]
     exact htx2
    unfold runN
    rw [hx,htx2,b4,b1,show (a.rn+1).toNat=a.rn.toNat+1 by omega,List.range_succ,List.map_append]
    congr 1
    simp only [List.map_cons,List.map_nil]
    congr 1
    refine Prod.ext ?_ rfl
    show a.id.toNat+a.rn.toNat=t.1
    unfold MayN at hmay
    omega
   refine ⟨hgood,?_,hmem,?_,?_,?_,?_,?_,?_⟩
   ·rw [List.length_append,List.length_singleton];have:=h.len;omega
   ·intro e he
    rcases List.mem_append.1 he with he|he
    ·exact hok e (by simp [he])
    ·rw [List.mem_singleton.1 he];exact hok2
   ·exact rowG_snoc r a2 (-1) hrow hck2 (by rw [b1];exact hpa)
   ·rw [expN_append,expN_one] at hexp ⊢
    rw [hrun2,← List.append_assoc,hexp]
   ·exact noOne_last h.one ⟨b1,b2,b3⟩
   ·have:=h.few
    simp at this ⊢
    omega
   ·intro r' x hx
    obtain ⟨_,hx2⟩:=List.append_inj' hx rfl
    simp at hx2
    subst hx2
    exact ⟨P,t,rfl,hla2⟩
  ·have hone':oneE a e1=false:=by simpa using hone
   rw [if_neg hone]
   refine ⟨hgood,?_,hmem,?_,?_,?_,?_,?_,?_⟩
   ·rw [List.length_append,List.length_singleton];have:=h.len;omega
   ·intro e he
    rcases List.mem_append.1 he with he|he
    ·exact hok e he
    ·rw [List.mem_singleton.1 he];exact dok
   ·exact rowG_snoc (r++[a]) e1 (-1) h.row dck (by rw [fold_snoc];omega)
   ·rw [expN_append,hexp,expN_one,drun]
   ·refine noOne_snoc h.one (fun r' x hx=>?_)
    obtain ⟨_,hx2⟩:=List.append_inj' hx rfl
    simp at hx2
    subst hx2
    exact hone'
   ·have:=h.few
    simp at this ⊢
    omega
   ·intro r' x hx
    obtain ⟨_,hx2⟩:=List.append_inj' hx rfl
    simp at hx2
    subst hx2
    exact ⟨P,t,rfl,dla⟩
theorem rinv_take {L:List It} (hg:GoodC L):∀ k,k≤L.length→RInv (L.take k) (rowsS (L.take k)).1 (rowsS (L.take k)).2:=by
 intro k
 induction k with
 | zero=>intro _;exact rinv_nil
 | succ k ih =>
  intro hk
  obtain ⟨t,ht⟩:∃ t,L[k]?=some t:=⟨_,List.getElem?_eq_getElem (by omega)⟩
  have hm:=List.mem_of_getElem? ht
  rw [rowsS_step L k t ht,itake_at L k t ht]
  refine rinv_step (ih (by omega)) t (fun u hu=>?_) (hg.low t hm) (hg.pos t hm) (hg.short t hm) (by rw [List.length_take];have:=hg.few;omega)
  obtain ⟨j,hj⟩:=List.mem_iff_getElem?.1 hu
  rw [List.getElem?_take] at hj
  split at hj
  ·rename_i hjk
   obtain ⟨h1,rfl⟩:=List.getElem?_eq_some_iff.1 hj
   obtain ⟨h2,rfl⟩:=List.getElem?_eq_some_iff.1 ht
   exact List.pairwise_iff_getElem.1 hg.rise j k h1 h2 hjk
  ·cases hj
theorem rinv_all {L:List It} (hg:GoodC L):RInv L (rowsS L).1 (rowsS L).2:=by
 have h:=rinv_take hg L.length (Nat.le_refl _)
 rwa [List.take_length] at h
def backG:List En→ByteArray→List It→Int→List It × Int
 | [],_,out,_=>(out,0)
 | e :: l,d,out,m =>
  if e.rn=0 then ([],14) else if (d.size:Int)<e.off+e.ln then ([],8) else if 2048<m+e.rn then ([],21) else if 65536<e.ln then ([],5)
  else backG l d (out++runN e d) (m+e.rn)
def backN (l:List En) (d:ByteArray):List It × Int:=if rowN l≠0 then ([],rowN l) else backG l d [] 0
structure TellE (e:En) (d:ByteArray):Prop where
 run:e.rn≠0
 inn:e.off+e.ln≤(d.size:Int)
 short:e.ln≤65536
theorem backG_ok:∀ (l:List En) (d:ByteArray) (out:List It) (m:Int),(∀ e ∈ l,TellE e d)→(∀ e ∈ l,0≤e.rn)→m+((l.map (·.rn)).sum)≤2048→backG l d out m=(out++expN l d,0)
 | [],d,out,m,_,_,_=>by simp [backG,expN]
 | e :: l,d,out,m,h,hr,hs=>by
  have he:=h e (by simp)
  have hsum:0≤(l.map (·.rn)).sum:=by
   have key:∀ l:List En,(∀ e ∈ l,0≤e.rn)→0≤(l.map (·.rn)).sum:=by
    intro l
    induction l with
    | nil=>intro _;simp
    | cons x l ih=>intro hx;rw [List.map_cons,List.sum_cons];have:=ih (fun e he=>hx e (by simp [he]));have:=hx x (by simp);omega
   exact key l (fun x hx=>hr x (by simp [hx]))
  rw [List.map_cons,List.sum_cons] at hs
  rw [backG,if_neg he.run,if_neg (by have:=he.inn;omega),if_neg (by omega),if_neg (by have:=he.short;omega),backG_ok l d _ _ (fun x hx=>h x (by simp [hx])) (fun x hx=>hr x (by simp [hx])) (by omega)]
  rw [List.append_assoc]
  rfl
theorem backG_inv:∀ (l:List En) (d:ByteArray) (out:List It) (m:Int) (C:List It),backG l d out m=(C,0)→(∀ e ∈ l,TellE e d)∧C=out++expN l d∧(l=[]∨m+((l.map (·.rn)).sum)≤2048)
 | [],d,out,m,C,h=>by
  rw [backG] at h
  cases h
  exact ⟨by simp,by simp [expN],.inl rfl⟩
 | e :: l,d,out,m,C,h=>by
  rw [backG] at h
  by_cases h1:e.rn=0
  ·rw [if_pos h1] at h;cases h
  rw [if_neg h1] at h
  by_cases h2:(d.size:Int)<e.off+e.ln
  ·rw [if_pos h2] at h;cases h
  rw [if_neg h2] at h
  by_cases h3:2048<m+e.rn
  ·rw [if_pos h3] at h;cases h
  rw [if_neg h3] at h
  by_cases h4:65536<e.ln
  ·rw [if_pos h4] at h;cases h
  rw [if_neg h4] at h
  obtain ⟨g1,g2,g3⟩:=backG_inv l d _ _ C h
  refine ⟨fun x hx=>?_,?_,.inr ?_⟩
  ·rcases List.mem_cons.1 hx with rfl|hx
   ·exact ⟨h1,by omega,by omega⟩
   ·exact g1 x hx
  ·rw [g2,List.append_assoc];rfl
  ·rw [List.map_cons,List.sum_cons]
   rcases g3 with rfl|g3
   ·simp;omega
   ·omega
theorem exp_len (l:List En) (d:ByteArray) (h:∀ e ∈ l,0≤e.rn):((expN l d).length:Int)=(l.map (·.rn)).sum:=by
 induction l with
 | nil=>rfl
 | cons e l ih =>
  have h1:=ih (fun x hx=>h x (by simp [hx]))
  have h2:=h e (by simp)
  unfold expN at h1 ⊢
  rw [List.flatMap_cons,List.length_append,List.map_cons,List.sum_cons,runN_len]
  omega
theorem cnt_sum (l:List En) (h:∀ e ∈ l,ckN e=0):cntN l=(l.map (·.rn)).sum:=by
 unfold cntN
 congr 1
 refine List.map_congr_left (fun e he=>?_)
 rw [if_pos (h e he)]
theorem back_whole {L:List It} (hg:GoodC L):backN (rowsS L).1 (catF (rowsS L).2)=(L,0)∧rowN (rowsS L).1=0∧NoOne (rowsS L).1∧cntN (rowsS L).1=(L.length:Int)∧(rowsS L).1.length≤L.length∧(∀ e ∈ (rowsS L).1,OkE e (rowsS L).2)∧GoodP (rowsS L).2:=by
 have h:=rinv_all hg
 have hr:∀ e ∈ (rowsS L).1,0≤e.rn:=fun e he=>by have:=(h.ok e he).run;omega
 have hs:=exp_len (rowsS L).1 (catF (rowsS L).2) hr
 rw [h.exp] at hs
 have hf:=hg.few
 have hrow:rowN (rowsS L).1=0:=by
  unfold rowN
  rw [if_neg (by have:=h.few;omega)]
  exact h.row
 refine ⟨?_,hrow,h.one,?_,h.few,h.ok,h.good⟩
 ·unfold backN
  rw [if_neg (by simp [hrow]),backG_ok _ _ _ _ (fun e he=>?_) hr (by omega),h.exp]
  ·rfl
  ·have ho:=h.ok e he
   obtain ⟨s,f1,f2⟩:=ho.txt
   have h1:=findF_le _ _ _ _ f1
   have h2:=h.good.short s ((findF_mem s _ 0).1 (by rw [f1];rfl))
   have h3:=ho.may
   have h4:=ho.run
   unfold MayN at h3
   exact ⟨by omega,by rw [catF_size];omega,by omega⟩
 ·rw [cnt_sum _ (fun e he=>(h.ok e he).ck),hs]
theorem entry_of {L:List It} (hg:GoodC L) (s:ByteArray) (hs:s ∈ (rowsS L).2):∃ e ∈ (rowsS L).1,findF s (rowsS L).2 0=some e.off.toNat∧e.ln=(s.size:Int):=by
 have h:=rinv_all hg
 obtain ⟨t,ht,rfl⟩:=(h.mem s).1 hs
 rw [← h.exp] at ht
 unfold expN at ht
 obtain ⟨e,he,hte⟩:=List.mem_flatMap.1 ht
 obtain ⟨k,hk,rfl⟩:=(mem_runN e _ t).1 hte
 obtain ⟨s,f1,f2⟩:=(h.ok e he).txt
 have:=ok_text f1 f2
 refine ⟨e,he,?_,?_⟩
 ·show findF (txN e _) _ 0=_
  rw [this];exact f1
 ·show _=((txN e _).size:Int)
  rw [this];exact f2
end Go.Proofs.YtdnmgpcfgcidbaaGreatDoor
namespace Go.Proofs.YtdnmgpcfgcidbaaGreatDoor
set_option linter.unusedVariables false
set_option linter.unusedSimpArgs false
def addF (s b:Nat):Nat:=(s ^^^ b)*1099511628211 % 18446744073709551616
def sumF (x:Nat) (l:List UInt8):Nat:=l.foldl (fun x c=>addF x c.toNat) x
def fSt:Nat:=14695981039346656037
def bktF (s:Nat) (n:Int):Int:=if n<1 then 0 else (s:Int) % n
theorem addF_lt (s b:Nat):addF s b<18446744073709551616:=Nat.mod_lt _ (by decide)
theorem sumF_cons (x:Nat) (l:List UInt8) (c:UInt8):sumF x (c :: l)=sumF (addF x c.toNat) l:=by
 unfold sumF;rw [List.foldl_cons]
theorem sumF_nil (x:Nat):sumF x []=x:=by
 unfold sumF;rw [List.foldl_nil]
theorem sumF_lt (l:List UInt8):∀ x,x<18446744073709551616→sumF x l<18446744073709551616:=by
 induction l with
 | nil=>intro x h;rw [sumF_nil];exact h
 | cons c l ih=>intro x _;rw [sumF_cons];exact ih _ (addF_lt _ _)
theorem sumF_snoc (x:Nat) (a:List UInt8) (c:UInt8):sumF x (a++[c])=addF (sumF x a) c.toNat:=by
 unfold sumF;rw [List.foldl_append,List.foldl_cons,List.foldl_nil]
theorem xor_lt (s b:Nat) (hs:s<18446744073709551616) (hb:b<18446744073709551616):s ^^^ b<18446744073709551616:=by
 have:=Nat.xor_lt_two_pow (n:=64) (x:=s) (y:=b) (by omega) (by omega)
 omega
abbrev Kt:=Nat × ByteArray
def plc:List ByteArray→Nat→List Kt
 | [],_=>[]
 | t :: l,n=>(n,t) :: plc l (n+t.size)
def bkt (s:ByteArray):Int:=bktF (sumF fSt s.data.toList) 2048
theorem bkt_range (s:ByteArray):0≤bkt s∧bkt s<2048:=by
 unfold bkt bktF
 rw [if_neg (by omega)]
 omega
def grp (k:Int) (l:List Kt):List Kt:=l.filter (fun t=>decide (bkt t.2=k))
theorem plc_len (l:List ByteArray):∀ n,(plc l n).length=l.length:=by
 induction l with
 | nil=>intro n;rfl
 | cons t l ih=>intro n;simp [plc,ih]
theorem plc_append (a b:List ByteArray):∀ n,plc (a++b) n=plc a n++plc b (n+totF a):=by
 induction a with
 | nil=>intro n;simp [plc,totF]
 | cons t l ih=>intro n;simp [plc,ih,totF,Nat.add_assoc]
theorem plc_snoc (l:List ByteArray) (s:ByteArray):plc (l++[s]) 0=plc l 0++[(totF l,s)]:=by
 rw [plc_append];simp [plc]
theorem plc_at (l:List ByteArray):∀ (n k:Nat) (t:ByteArray),l[k]?=some t→(plc l n)[k]?=some (n+totF (l.take k),t):=by
 induction l with
 | nil=>intro n k t h;simp at h
 | cons x l ih =>
  intro n k t h
  cases k with
  | zero=>simp at h;subst h;simp [plc,totF]
  | succ k=>rw [plc,List.getElem?_cons_succ,ih _ k t (by simpa using h)];simp [totF,Nat.add_assoc]
theorem grp_append (k:Int) (a b:List Kt):grp k (a++b)=grp k a++grp k b:=by simp [grp]
theorem grp_one (k:Int) (t:Kt):grp k [t]=if bkt t.2=k then [t] else []:=by
 unfold grp
 by_cases h:bkt t.2=k <;> simp [h]
theorem grp_len (k:Int) (l:List Kt):(grp k l).length≤l.length:=List.length_filter_le _ _
theorem find_grp (s:ByteArray) (l:List ByteArray):∀ n,((grp (bkt s) (plc l n)).find? (fun t=>decide (t.2=s))).map (·.1)=findF s l n:=by
 induction l with
 | nil=>intro n;rfl
 | cons t l ih =>
  intro n
  rw [plc,findF]
  by_cases h:t=s
  ·subst h
   rw [if_pos rfl]
   simp [grp]
  ·rw [if_neg h,← ih]
   unfold grp
   by_cases hb:bkt t=bkt s
   ·rw [List.filter_cons_of_pos (by simpa using hb),List.find?_cons_of_neg (by simpa using h)]
   ·rw [List.filter_cons_of_neg (by simpa using hb)]
theorem find_first (p:Kt→Bool) (l:List Kt) (i:Nat) (t:Kt) (hi:l[i]?=some t) (hp:p t=true) (hn:∀ x ∈ l.take i,p x=false):l.find? p=some t:=by
 have e:l=l.take i++t :: l.drop (i+1):=by rw [← drop_at l i t hi,List.take_append_drop]
 rw [e,List.find?_append]
 have h0:(l.take i).find? p=none:=by rw [List.find?_eq_none];intro x hx;rw [hn x hx];simp
 rw [h0]
 simp [hp]
theorem find_no (p:Kt→Bool) (l:List Kt) (hn:∀ x ∈ l,p x=false):l.find? p=none:=by
 rw [List.find?_eq_none];intro x hx;rw [hn x hx];simp
end Go.Proofs.YtdnmgpcfgcidbaaGreatDoor
namespace Go.Proofs.YtdnmgpcfgcidbaaGreatDoor
set_option linter.unusedVariables false
set_option linter.unusedSimpArgs false
open Go.RowKit
set_option maxRecDepth 20000
def getT (o:Option ByteArray):ByteArray:=o.getD { data:=#[] }
theorem getI_step (id:Nat) (l:List It) (k:Nat) (t:It) (h:l[k]?=some t):getI id (l.drop k)=if t.1=id then some t.2 else getI id (l.drop (k+1)):=by
 rw [idrop_at l k t h,getI]
set_option maxHeartbeats 1000000 in
theorem rget_anyC (v:Value) (l:List It) (id:Nat) (w:World) (hv:ItsAt w v l) :
  Calls Tryz.prog 66 #[v,.int .u64 id] w fun e w'=>e=.returned (.tuple #[.string (getT (getI id l)),.bool (getI id l).isSome])∧w'=w:=by
 obtain ⟨al,cap,rfl,hcap,hmx,hc⟩:=hv
 have HC:=Lib.hid hc
 have hmx':l.length≤maxLen:=by omega
 unfold maxLen at hmx'
 clear hc
 go_enter Tryz.func66,Tryz.ntmps66
 go_wp2_with fail
 go_loop [6] (fun i=>∃ k:Nat,k≤l.length∧i=.int .i64 k∧getI id l=getI id (l.drop k)) (fun i=>l.length-(intOf i).toNat)
 case atStart=>exact ⟨0,Nat.zero_le _,rfl,by simp⟩
 case round =>
  obtain ⟨k,hk,rfl,hf⟩:=hrel
  by_cases hlt:k<l.length
  ·obtain ⟨⟨x,s⟩,htk⟩:∃ t,l[k]?=some t:=⟨_,List.getElem?_eq_getElem hlt⟩
   obtain ⟨g,off,rfl,hg,c0,c1⟩:=HC.out k _ htk
   rw [getI_step id l k _ htk] at hf
   by_cases he:x=id
   ·rw [if_pos he] at hf
    have HF:=Lib.hid hf
    clear hf
    subst he
    go_wp2_with fail
    refine bodyPost_ret (results_tmp2 rfl _ _ _) rfl ⟨?_,rfl⟩
    rw [HF.out];rfl
   ·rw [if_neg he] at hf
    have HF:=Lib.hid hf
    clear hf
    have hne:((x:Int) == (id:Int))=false:=by rw [beq_eq_false_iff_ne];omega
    go_wp2_with fail
    go_round
    case rel=>exact ⟨k+1,by omega,by go_num,HF.out⟩
    case measure=>simp [intOf];omega
  ·obtain rfl:k=l.length:=by omega
   rw [List.drop_length,getI] at hf
   have HF:=Lib.hid hf
   clear hf
   go_wp2_with fail
   refine bodyPost_ret (results_tmp2 rfl _ _ _) rfl ⟨?_,rfl⟩
   rw [HF.out];rfl
def overI (l:List It) (m M:Int):Bool:=decide (M<bytesI l) || decide (m<(l.length:Int))
set_option maxHeartbeats 1000000 in
theorem over_any (v:Value) (l:List It) (m M:Int) (w:World) (hv:ItsAt w v l) (hsz:∀ t ∈ l,t.2.size≤maxLen) (hM0:0≤M) (hM1:M≤1000000) :
  Calls Tryz.prog 7 #[v,.int .i64 m,.int .i64 M] w fun e w'=>e=.returned (.bool (overI l m M))∧w'=w:=by
 obtain ⟨al,cap,rfl,hcap,hmx,hc⟩:=hv
 have HC:=Lib.hid hc
 have hmx':l.length≤maxLen:=by omega
 unfold maxLen at hmx'
 clear hc
 go_enter Tryz.func7,Tryz.ntmps7
 go_wp2_with fail
 go_loop [2,7] (fun n i=>∃ k:Nat,k≤l.length∧i=.int .i64 k∧n=.int .i64 (M-(bytesI (l.take k):Int))∧(bytesI (l.take k):Int)≤M) (fun _ i=>l.length-(intOf i).toNat)
 case atStart=>exact ⟨0,Nat.zero_le _,rfl,by simp [bytesI],by simp [bytesI];exact hM0⟩
 case round =>
  obtain ⟨k,hk,rfl,rfl,hle⟩:=hrel
  by_cases hlt:k<l.length
  ·obtain ⟨⟨x,s⟩,htk⟩:∃ t,l[k]?=some t:=⟨_,List.getElem?_eq_getElem hlt⟩
   obtain ⟨g,off,rfl,hg,c0,c1⟩:=HC.out k _ htk
   have hts:=hsz _ (List.mem_of_getElem? htk)
   have h1:=bytesI_step l k _ htk
   have h2:=bytesI_take l (k+1)
   have HS:=Lib.hid h1
   simp only at HS h1 hts
   unfold maxLen at hts
   generalize bytesI (l.take k)=q at *
   have hw:IntKind.i64.wrap (M-(q:Int)-(s.size:Int))=M-(q:Int)-(s.size:Int):=by rw [IntKind.wrap_i64] <;> omega
   by_cases hn:M-(q:Int)-(s.size:Int)<0
   ·have HO:=Lib.hid (show overI l m M=true by unfold overI;rw [Bool.or_eq_true,decide_eq_true_eq];left;omega)
    go_wp2_with fail
    go_ret
    exact ⟨by rw [HO.out];rfl,rfl⟩
   ·go_wp2_with fail
    go_round
    case rel=>exact ⟨k+1,by omega,by go_num,by rw [HS.out];go_num,by rw [HS.out];omega⟩
    case measure=>simp [intOf];omega
  ·obtain rfl:k=l.length:=by omega
   rw [List.take_length] at hle ⊢
   have HO:=Lib.hid (show overI l m M=decide (m<(l.length:Int)) by unfold overI;rw [decide_eq_false (by omega),Bool.false_or])
   go_wp2_with fail
   go_ret
   exact ⟨by rw [HO.out];rfl,rfl⟩
def OwnEnd (E:TypeId) (l:List It) (w:World) (e:Ending) (w':World):Prop:=∃ v,e=.returned v∧OwnIt w' w.heap.size E v l∧Below w.heap.size w w'
set_option maxHeartbeats 1000000 in
theorem rdel_any (v:Value) (l:List It) (id:Nat) (w:World) (hv:ItsAt w v l) (hl:l.length≤100000) :
  Calls Tryz.prog 67 #[v,.int .u64 id] w (OwnEnd 74 (delI id l) w):=by
 obtain ⟨al,cap,rfl,hcap,hmx,hc⟩:=hv
 have HC:=Lib.hid hc
 have hmx':l.length≤maxLen:=by omega
 unfold maxLen at hmx'
 clear hc
 go_enter Tryz.func67,Tryz.ntmps67
 go_wp2_with fail
 go_loopw [5,6] (fun u i wr=>∃ k:Nat,k≤l.length∧i=.int .i64 k∧OwnIt wr w.heap.size 74 u (delI id (l.take k))∧Below w.heap.size w wr) (fun _ i _=>l.length-(intOf i).toNat)
 case atStart=>exact ⟨0,Nat.zero_le _,rfl,ownIt_nil _ _ _,Below.refl _ _⟩
 case round =>
  obtain ⟨k,hk,rfl,hown,hbw⟩:=hrel
  by_cases hlt:k<l.length
  ·obtain ⟨⟨x,s⟩,htk⟩:∃ t,l[k]?=some t:=⟨_,List.getElem?_eq_getElem hlt⟩
   obtain ⟨g,off,rfl,hg,c0,c1⟩:=HC.out k _ htk
   have HS:=Lib.hid (delI_step id l k _ htk)
   have hlen:=delI_len id (l.take k)
   rw [List.length_take] at hlen
   have d0:=(hbw.cell (p:=⟨g,off+k*2,none⟩) hg).trans c0
   have d1:=(hbw.cell (p:=⟨g,off+k*2+1,none⟩) hg).trans c1
   have d2:=Nat.lt_of_lt_of_le hg hbw.size
   by_cases he:x=id
   ·have HO:=Lib.hid hown
    have HB:=Lib.hid hbw
    clear hown hbw
    have hs:delI id (l.take (k+1))=delI id (l.take k):=by rw [HS.out,if_pos he]
    have HS2:=Lib.hid hs
    clear hs HS c0 c1
    subst he
    go_wp2_with fail
    go_roundw
    case rel=>exact ⟨k+1,by omega,by go_num,by rw [HS2.out];exact HO.out,HB.out⟩
    case measure=>simp [intOf];omega
   ·have hs:delI id (l.take (k+1))=delI id (l.take k)++[(x,s)]:=by rw [HS.out,if_neg he]
    have HS2:=Lib.hid hs
    have hne:((x:Int) != (id:Int))=true:=by simp;omega
    have hb2:Below w.heap.size w (wr.alloc (.cells #[.int .u64 x,.string s] 74)):=hbw.alloc hbw.size _
    obtain ⟨v',w',hr,hown',hgr⟩:=itappend_run (wr.alloc (.cells #[.int .u64 x,.string s] 74)) w.heap.size 22 74 22 _ Tryz.underlying22 infoIt rfl _ _ _ [(x,s)] (hown.below (Below.alloc (Below.refl _ _) (Nat.le_refl _) _)) (it_lit wr x s _) (by simp;omega) hb2.size
    have HO:=Lib.hid hown'
    have HB:=Lib.hid (Below.grown hb2 hgr hb2.size (fun k hk=>(hown.lt k hk).1))
    clear hown hbw hs HS c0 c1 hb2 hown' hgr
    go_wp2_with (first|(at_builtin;refine Lib.wpList_append_run _ rfl _ _ _ _ rfl _ _ rfl rfl _ _ hr ?_)|fail)
    go_roundw
    case rel=>exact ⟨k+1,by omega,by go_num,by rw [HS2.out];exact HO.out,HB.out⟩
    case measure=>simp [intOf];omega
  ·obtain rfl:k=l.length:=by omega
   rw [List.take_length] at hown
   go_wp2_with fail
   go_ret
   exact ⟨_,rfl,hown,hbw⟩
theorem low_take (id:Nat) (r:List It):r.take (lowI id r).length=lowI id r:=by
 conv=>lhs;arg 2;rw [← low_high id r]
 exact List.take_left
theorem low_drop (id:Nat) (r:List It):r.drop (lowI id r).length=highI id r:=by
 conv=>lhs;arg 2;rw [← low_high id r]
 exact List.drop_left
theorem low_le (id:Nat) (r:List It):(lowI id r).length≤r.length:=by
 have:=congrArg List.length (low_high id r)
 rw [List.length_append] at this
 omega
theorem low_at (id:Nat) (r:List It):∀ k,k<(lowI id r).length→∃ t,r[k]?=some t∧t.1<id:=by
 induction r with
 | nil=>intro k h;simp [lowI] at h
 | cons x r ih =>
  intro k h
  unfold lowI at h
  rw [List.takeWhile_cons] at h
  by_cases hx:x.1<id
  ·rw [if_pos (by simpa using hx)] at h
   cases k with
   | zero=>exact ⟨x,rfl,hx⟩
   | succ k=>exact ih k (by simpa [lowI] using h)
  ·rw [if_neg (by simpa using hx)] at h
   simp at h
theorem low_end (id:Nat) (r:List It):∀ t,r[(lowI id r).length]?=some t→¬ t.1<id:=by
 induction r with
 | nil=>intro t h;simp at h
 | cons x r ih =>
  intro t h
  unfold lowI at h
  rw [List.takeWhile_cons] at h
  by_cases hx:x.1<id
  ·rw [if_pos (by simpa using hx)] at h
   exact ih t (by simpa [lowI] using h)
  ·rw [if_neg (by simpa using hx)] at h
   simp at h
   subst h
   exact hx
theorem OwnIt.form {w:World} {B:Nat} {E:TypeId} {v:Value} {l:List It} (h:OwnIt w B E v l) :
  (v=.slice none 0 0∧l=[])∨∃ g cap,v=.slice (some ⟨g,0,none⟩) l.length cap∧B≤g∧g<w.heap.size∧l.length≤cap∧cap≤maxLen∧(∀ k t,l[k]?=some t→w.cell? ⟨g,k*2,none⟩=some (.int .u64 t.1)∧w.cell? ⟨g,k*2+1,none⟩=some (.string t.2)):=by
 have hlt:=h.lt
 have h':=h
 obtain ⟨h1,h2⟩:=h
 rcases h2 with ⟨rfl,hn⟩|⟨g,cap,cur,rfl,hg,hh,hle,hm,_⟩
 ·exact .inl ⟨rfl,List.eq_nil_of_length_eq_zero hn⟩
 ·refine .inr ⟨g,cap,rfl,hg,(hlt g rfl).2,hle,hm,fun k t ht=>?_⟩
  have hk:=(List.getElem?_eq_some_iff.1 ht).1
  obtain ⟨f0,f1⟩:=flatI_at l k t ht
  exact ⟨(World.ownsRow.cellAt h' (k*2) (by omega)).trans f0,(World.ownsRow.cellAt h' (k*2+1) (by omega)).trans f1⟩
theorem its_pre {w:World} {g cap:Nat} {l:List It} (k:Nat) (hk:k≤l.length) (hg:g<w.heap.size) (h1:l.length≤cap) (h2:cap≤maxLen) (hc:∀ k t,l[k]?=some t→w.cell? ⟨g,k*2,none⟩=some (.int .u64 t.1)∧w.cell? ⟨g,k*2+1,none⟩=some (.string t.2)):ItsAt w (.slice (some ⟨g,0,none⟩) k cap) (l.take k):=by
 have e:(l.take k).length=k:=by rw [List.length_take];omega
 refine ⟨_,cap,by rw [e],by omega,h2,fun j t ht=>⟨g,0,rfl,hg,?_⟩⟩
 have hj:j<k:=by have:=(List.getElem?_eq_some_iff.1 ht).1;omega
 rw [List.getElem?_take,if_pos hj] at ht
 rw [Nat.zero_add]
 exact hc j t ht
theorem its_post {w:World} {g cap:Nat} {l:List It} (k:Nat) (hk:k≤l.length) (hg:g<w.heap.size) (h1:l.length≤cap) (h2:cap≤maxLen) (hc:∀ k t,l[k]?=some t→w.cell? ⟨g,k*2,none⟩=some (.int .u64 t.1)∧w.cell? ⟨g,k*2+1,none⟩=some (.string t.2)):ItsAt w (.slice (some ⟨g,k*2,none⟩) (l.length-k) (cap-k)) (l.drop k):=by
 refine ⟨_,cap-k,by rw [List.length_drop],by rw [List.length_drop];omega,by omega,fun j t ht=>⟨g,k*2,rfl,hg,?_⟩⟩
 rw [List.getElem?_drop] at ht
 have:=hc (k+j) t ht
 rw [show k*2+j*2=(k+j)*2 by omega]
 exact this
theorem its_zero {w:World} {a:Option Addr} {l:List It} (k:Nat) (hk:l.length≤k):ItsAt w (.slice a (l.length-k) 0) (l.drop k):=by
 have:l.drop k=[]:=List.drop_of_length_le hk
 rw [this]
 exact ⟨a,0,by rw [show l.length-k=0 by omega];rfl,by simp,by simp,fun j t ht=>by simp at ht⟩
theorem OwnIt.slice {w:World} {B:Nat} {E:TypeId} {v:Value} {l:List It} (h:OwnIt w B E v l):∃ a cap,v=.slice a l.length cap:=by
 rcases h.form with ⟨rfl,rfl⟩|⟨g,cap,rfl,_⟩
 ·exact ⟨none,0,rfl⟩
 ·exact ⟨_,cap,rfl⟩
def RPutEnd (l:List It) (id:Nat) (s:ByteArray) (w:World) (e:Ending) (w':World):Prop :=
 ∃ v',e=.returned (.tuple #[v',.int .i64 (putE l id s:Nat)])∧ItsAt w' v' (putL l id s)∧Below w.heap.size w w'
theorem rput_err (v:Value) (l:List It) (id n:Nat) (s:ByteArray) (w:World) (hv:ItsAt w v l) (hn:putE l id s=n) (h0:n≠0):∀ e,e=Ending.returned (.tuple #[v,.int .i64 (n:Nat)])→RPutEnd l id s w e w:=by
 rintro e rfl
 refine ⟨v,by rw [hn],?_,Below.refl _ _⟩
 unfold putL
 rw [hn,if_neg h0]
 exact hv
set_option maxHeartbeats 1000000 in
theorem rput_no (v:Value) (l:List It) (id:Nat) (s:ByteArray) (w:World) (hv:ItsAt w v l) (hid:id<18446744073709551616) (h:putE l id s≠0):Calls Tryz.prog 30 #[v,.int .u64 id,.string s] w (RPutEnd l id s w):=by
 have HV:=Lib.hid (rput_err v l id _ s w hv rfl h)
 have HG:=Lib.hid (rget_anyC v l id w hv)
 obtain ⟨n,hn⟩:∃ n,putE l id s=n:=⟨_,rfl⟩
 rw [hn] at HV h
 unfold putE at hn
 obtain ⟨al,cap,rfl,hcap,hmx,hc⟩:=hv
 clear hc
 by_cases h1:6004799503160661≤id
 ·rw [if_pos h1] at hn
  subst hn
  have h1':(6004799503160661:Int)≤(id:Int):=by omega
  go_enter Tryz.func30,Tryz.ntmps30
  go_wp2_with fail
  exact bodyPost_ret (results_tmp2 rfl _ _ _) rfl (HV.out _ rfl)
 ·rw [if_neg h1] at hn
  have h1':¬ (6004799503160661:Int)≤(id:Int):=by omega
  by_cases h2:s.size=0
  ·rw [if_pos h2] at hn
   subst hn
   have h2':((s.size:Int) == 0)=true:=by rw [beq_iff_eq];omega
   go_enter Tryz.func30,Tryz.ntmps30
   go_wp2_with fail
   exact bodyPost_ret (results_tmp2 rfl _ _ _) rfl (HV.out _ rfl)
  ·rw [if_neg h2] at hn
   have h2':((s.size:Int) == 0)=false:=by rw [beq_eq_false_iff_ne];omega
   by_cases h3:65536<s.size
   ·rw [if_pos h3] at hn
    subst hn
    have h3':(65536:Int)<(s.size:Int):=by omega
    go_enter Tryz.func30,Tryz.ntmps30
    go_wp2_with fail
    exact bodyPost_ret (results_tmp2 rfl _ _ _) rfl (HV.out _ rfl)
   ·rw [if_neg h3] at hn
    have h3':¬ (65536:Int)<(s.size:Int):=by omega
    cases hg:getI id l with
    | some t=>rw [hg] at hn;simp at hn;exact absurd hn.symm h
    | none =>
     rw [hg] at hn HG
     by_cases h4:2048≤l.length
     ·simp [h4] at hn
      subst hn
      have h4':decide ((2048:Int)≤(l.length:Int))=true:=decide_eq_true (by omega)
      rw [show (none:Option ByteArray).isSome=false from rfl] at HG
      generalize getT none=gt at *
      go_enter Tryz.func30,Tryz.ntmps30
      go_wp2_with fail
      refine HG.out.mono ?_
      rintro y w1 ⟨rfl,rfl⟩
      go_wp2_with fail
      exact bodyPost_ret (results_tmp2 rfl _ _ _) rfl (HV.out _ rfl)
     ·simp [h4] at hn;exact absurd hn.symm h
set_option maxRecDepth 20000 in
set_option maxHeartbeats 2000000 in
theorem rput_yes (v:Value) (l:List It) (id:Nat) (s:ByteArray) (w:World) (hv:ItsAt w v l) (hl:l.length≤100000) (h:putE l id s=0):Calls Tryz.prog 30 #[v,.int .u64 id,.string s] w (RPutEnd l id s w):=by
 have HG:=Lib.hid (rget_anyC v l id w hv)
 have HD:=Lib.hid (rdel_any v l id w hv hl)
 have hlen:=delI_len id l
 have hE:=h
 have hL:=Lib.hid (show putL l id s=putI id s l by unfold putL;rw [if_pos h])
 have E:=Lib.hid h
 unfold putE at h
 by_cases h1:6004799503160661≤id
 ·rw [if_pos h1] at h;omega
 rw [if_neg h1] at h
 by_cases h2:s.size=0
 ·rw [if_pos h2] at h;omega
 rw [if_neg h2] at h
 by_cases h3:65536<s.size
 ·rw [if_pos h3] at h;omega
 rw [if_neg h3] at h
 have h1':¬ (6004799503160661:Int)≤(id:Int):=by omega
 have h2':((s.size:Int) == 0)=false:=by rw [beq_eq_false_iff_ne];omega
 have h3':¬ (65536:Int)<(s.size:Int):=by omega
 have h4:((getI id l).isSome=true)∨((getI id l).isSome=false∧decide ((2048:Int)≤(l.length:Int))=false):=by
  cases hg:getI id l with
  | some t=>exact .inl rfl
  | none =>
   refine .inr ⟨rfl,decide_eq_false ?_⟩
   rw [hg] at h
   intro hq
   have:2048≤l.length:=by omega
   simp [this] at h
 obtain ⟨al,cap,rfl,hcap,hmx,hc⟩:=hv
 clear hc h hE
 generalize getT (getI id l)=gt at *
 generalize (getI id l).isSome=gb at *
 generalize hr:delI id l=r at *
 go_enter Tryz.func30,Tryz.ntmps30
 go_wp2_with fail
 refine HG.out.mono ?_
 rintro y w1 ⟨rfl,rfl⟩
 rcases h4 with rfl|⟨rfl,h4⟩
 all_goals
  go_wp2_with fail
  refine HD.out.mono ?_
  rintro y w2 ⟨vr,rfl,hown,hb⟩
  rcases hown.form with ⟨rfl,rfl⟩|⟨g,cap2,rfl,hB,hg,hq1,hq2,hcells⟩
  ·obtain ⟨v1,w3,hr1,hown1,hgr1⟩:=itappend_run w2 w2.heap.size 22 74 22 _ Tryz.underlying22 infoIt rfl (.slice none 0 0) (.slice none 0 0) [] [] (ownIt_nil _ _ _) (its_nil _) (by simp) (Nat.le_refl _)
   have hb1:Below w2.heap.size w2 w3:=Below.grown (Below.refl _ _) hgr1 (Nat.le_refl _) (fun k hk=>by cases hk)
   have hb2:Below w2.heap.size w2 (w3.alloc (.cells #[.int .u64 id,.string s] 74)):=hb1.alloc hb1.size _
   obtain ⟨v2,w4,hr2,hown2,hgr2⟩:=itappend_run (w3.alloc (.cells #[.int .u64 id,.string s] 74)) w2.heap.size 22 74 22 _ Tryz.underlying22 infoIt rfl v1 _ _ [(id,s)] (hown1.below (Below.alloc (Below.refl _ _) (Nat.le_refl _) _)) (it_lit w3 id s _) (by simp) hb2.size
   have hb3:Below w2.heap.size w2 w4:=Below.grown hb2 hgr2 hb2.size (fun k hk=>(hown1.lt k hk).1)
   obtain ⟨v3,w5,hr3,hown3,hgr3⟩:=itappend_run w4 w2.heap.size 22 74 22 _ Tryz.underlying22 infoIt rfl v2 (.slice none 0 0) _ [] hown2 (its_nil _) (by simp) hb3.size
   have hb4:Below w2.heap.size w2 w5:=Below.grown hb3 hgr3 hb3.size (fun k hk=>(hown2.lt k hk).1)
   have HB:=Lib.hid (hb.trans (hb4.mono hb.size))
   have hput:putL l id s=[]++[]++[(id,s)]++[]:=by
    rw [hL.out]
    unfold putI
    rw [hr]
    rfl
   have HO:=Lib.hid (show ItsAt w5 v3 (putL l id s) by rw [hput];exact hown3.itsAt)
   obtain ⟨a1,cap1,rfl⟩:=hown1.slice
   obtain ⟨a2,cap2',rfl⟩:=hown2.slice
   simp only [List.append_nil,List.nil_append,List.length_nil,List.length_singleton] at hr2 hr3
   clear hown1 hown2 hown3 hgr1 hgr2 hgr3 hb1 hb2 hb3 hb4 hb hput hown
   go_wp2_with fail
   go_loop [11] (fun i=>i=.int .i64 0) (fun i=>0)
   case atStart=>rfl
   case round =>
    subst hrel
    go_wp2_with (first|(at_builtin;refine Lib.wpList_append_run _ rfl _ _ _ _ rfl _ _ rfl rfl _ _ hr1 ?_;clear hr1)|(at_builtin;refine Lib.wpList_append_run _ rfl _ _ _ _ rfl _ _ rfl rfl _ _ hr2 ?_;clear hr2)|(at_builtin;refine Lib.wpList_append_run _ rfl _ _ _ _ rfl _ _ rfl rfl _ _ hr3 ?_;clear hr3)|fail)
    refine bodyPost_ret (results_tmp2 rfl _ _ _) rfl ⟨_,?_,HO.out,HB.out⟩
    rw [E.out];rfl
  ·have HC:=Lib.hid hcells
   have HLo:=Lib.hid (low_at id r)
   have hlo:=low_le id r
   have hLe:=Lib.hid (low_end id r)
   generalize hn:(lowI id r).length=n at *
   go_wp2_with fail
   go_loop [11] (fun i=>∃ k:Nat,k≤n∧i=.int .i64 k) (fun i=>n-(intOf i).toNat)
   case atStart=>exact ⟨0,Nat.zero_le _,rfl⟩
   case round =>
    obtain ⟨k,hk,rfl⟩:=hrel
    by_cases hlt:k<n
    ·obtain ⟨⟨x,t⟩,htk,hx⟩:=HLo.out k hlt
     obtain ⟨c0,c1⟩:=HC.out k _ htk
     have hkr:(k:Int)<(r.length:Int):=by omega
     have hx':(x:Int)<(id:Int):=by simp only at hx;omega
     go_wp2_with fail
     go_round
     case rel=>exact ⟨k+1,by omega,by go_num⟩
     case measure=>simp [intOf];omega
    ·have hkn:k=n:=by omega
     subst hkn
     have hend:((k:Int)<(r.length:Int)∧∃ x t,r[k]?=some (x,t)∧¬ (x:Int)<(id:Int))∨¬ (k:Int)<(r.length:Int):=by
      by_cases hq:k<r.length
      ·obtain ⟨⟨x,t⟩,ht⟩:∃ t,r[k]?=some t:=⟨_,List.getElem?_eq_getElem hq⟩
       have:=hLe.out _ ht
       exact .inl ⟨by omega,x,t,ht,by simp only at this;omega⟩
      ·exact .inr (by omega)
     have hpre:=its_pre k hlo hg hq1 hq2 hcells
     have hpost:=its_post k hlo hg hq1 hq2 hcells
     have hlp:(r.take k).length=k:=by rw [List.length_take];omega
     obtain ⟨v1,w3,hr1,hown1,hgr1⟩:=itappend_run w2 w2.heap.size 22 74 22 _ Tryz.underlying22 infoIt rfl (.slice none 0 0) _ [] (r.take k) (ownIt_nil _ _ _) hpre (by simp;omega) (Nat.le_refl _)
     rw [List.nil_append] at hown1
     have hb1:Below w2.heap.size w2 w3:=Below.grown (Below.refl _ _) hgr1 (Nat.le_refl _) (fun k hk=>by cases hk)
     have hb2:Below w2.heap.size w2 (w3.alloc (.cells #[.int .u64 id,.string s] 74)):=hb1.alloc hb1.size _
     obtain ⟨v2,w4,hr2,hown2,hgr2⟩:=itappend_run (w3.alloc (.cells #[.int .u64 id,.string s] 74)) w2.heap.size 22 74 22 _ Tryz.underlying22 infoIt rfl v1 _ _ [(id,s)] (hown1.below (Below.alloc (Below.refl _ _) (Nat.le_refl _) _)) (it_lit w3 id s _) (by simp only [List.length_singleton];omega) hb2.size
     have hb3:Below w2.heap.size w2 w4:=Below.grown hb2 hgr2 hb2.size (fun k hk=>(hown1.lt k hk).1)
     have hlq:(r.take k++[(id,s)]).length=k+1:=by rw [List.length_append,hlp];rfl
     have hput:putL l id s=r.take k++[(id,s)]++r.drop k:=by
      rw [hL.out]
      unfold putI
      rw [hr,← low_take id r,← low_drop id r,hn,List.append_assoc]
      rfl
     rcases hend with ⟨e1,x,t,e2,e3⟩|e1
     ·obtain ⟨c0,c1⟩:=hcells k _ e2
      obtain ⟨v3,w5,hr3,hown3,hgr3⟩:=itappend_run w4 w2.heap.size 22 74 22 _ Tryz.underlying22 infoIt rfl v2 _ _ (r.drop k) hown2 (hpost.below hb3) (by rw [List.length_drop];omega) hb3.size
      have hb4:Below w2.heap.size w2 w5:=Below.grown hb3 hgr3 hb3.size (fun k hk=>(hown2.lt k hk).1)
      have HB:=Lib.hid (hb.trans (hb4.mono hb.size))
      have HO:=Lib.hid (show ItsAt w5 v3 (putL l id s) by rw [hput];exact hown3.itsAt)
      obtain ⟨a1,cap1,rfl⟩:=hown1.slice
      obtain ⟨a2,cap2',rfl⟩:=hown2.slice
      rw [hlp] at hr2
      rw [hlq] at hr3
      have HC:=Lib.hid hcells
      clear hcells hpre hpost hown1 hown2 hown3 hgr1 hgr2 hgr3 hb1 hb2 hb3 hb4 hb hput hown
      go_wp2_with (first|(at_builtin;refine Lib.wpList_append_run _ rfl _ _ _ _ rfl _ _ rfl rfl _ _ hr1 ?_;clear hr1)|(at_builtin;refine Lib.wpList_append_run _ rfl _ _ _ _ rfl _ _ rfl rfl _ _ hr2 ?_;clear hr2)|(at_builtin;refine Lib.wpList_append_run _ rfl _ _ _ _ rfl _ _ rfl rfl _ _ hr3 ?_;clear hr3)|fail)
      refine bodyPost_ret (results_tmp2 rfl _ _ _) rfl ⟨_,?_,HO.out,HB.out⟩
      rw [E.out];rfl
     ·by_cases hck:cap2=k
      ·have hpz:ItsAt w4 (.slice (some ⟨g,0,none⟩) (r.length-k) 0) (r.drop k):=its_zero k (by omega)
       obtain ⟨v3,w5,hr3,hown3,hgr3⟩:=itappend_run w4 w2.heap.size 22 74 22 _ Tryz.underlying22 infoIt rfl v2 _ _ (r.drop k) hown2 hpz (by rw [List.length_drop];omega) hb3.size
       have hb4:Below w2.heap.size w2 w5:=Below.grown hb3 hgr3 hb3.size (fun k hk=>(hown2.lt k hk).1)
       have HB:=Lib.hid (hb.trans (hb4.mono hb.size))
       have HO:=Lib.hid (show ItsAt w5 v3 (putL l id s) by rw [hput];exact hown3.itsAt)
       obtain ⟨a1,cap1,rfl⟩:=hown1.slice
       obtain ⟨a2,cap2',rfl⟩:=hown2.slice
       rw [hlp] at hr2
       rw [hlq] at hr3
       have HC:=Lib.hid hcells
       clear hpz hcells hpre hpost hown1 hown2 hown3 hgr1 hgr2 hgr3 hb1 hb2 hb3 hb4 hb hput hown
       go_wp2_with (first|(at_builtin;refine Lib.wpList_append_run _ rfl _ _ _ _ rfl _ _ rfl rfl _ _ hr1 ?_;clear hr1)|(at_builtin;refine Lib.wpList_append_run _ rfl _ _ _ _ rfl _ _ rfl rfl _ _ hr2 ?_;clear hr2)|(at_builtin;refine Lib.wpList_append_run _ rfl _ _ _ _ rfl _ _ rfl rfl _ _ hr3 ?_;clear hr3)|fail)
       refine bodyPost_ret (results_tmp2 rfl _ _ _) rfl ⟨_,?_,HO.out,HB.out⟩
       rw [E.out];rfl
      ·have hdu:=hck
       obtain ⟨v3,w5,hr3,hown3,hgr3⟩:=itappend_run w4 w2.heap.size 22 74 22 _ Tryz.underlying22 infoIt rfl v2 _ _ (r.drop k) hown2 (hpost.below hb3) (by rw [List.length_drop];omega) hb3.size
       have hb4:Below w2.heap.size w2 w5:=Below.grown hb3 hgr3 hb3.size (fun k hk=>(hown2.lt k hk).1)
       have HB:=Lib.hid (hb.trans (hb4.mono hb.size))
       have HO:=Lib.hid (show ItsAt w5 v3 (putL l id s) by rw [hput];exact hown3.itsAt)
       obtain ⟨a1,cap1,rfl⟩:=hown1.slice
       obtain ⟨a2,cap2',rfl⟩:=hown2.slice
       rw [hlp] at hr2
       rw [hlq] at hr3
       have HC:=Lib.hid hcells
       clear hcells hpre hpost hown1 hown2 hown3 hgr1 hgr2 hgr3 hb1 hb2 hb3 hb4 hb hput hown
       go_wp2_with (first|(at_builtin;refine Lib.wpList_append_run _ rfl _ _ _ _ rfl _ _ rfl rfl _ _ hr1 ?_;clear hr1)|(at_builtin;refine Lib.wpList_append_run _ rfl _ _ _ _ rfl _ _ rfl rfl _ _ hr2 ?_;clear hr2)|(at_builtin;refine Lib.wpList_append_run _ rfl _ _ _ _ rfl _ _ rfl rfl _ _ hr3 ?_;clear hr3)|fail)
       refine bodyPost_ret (results_tmp2 rfl _ _ _) rfl ⟨_,?_,HO.out,HB.out⟩
       rw [E.out];rfl
theorem rput_any (v:Value) (l:List It) (id:Nat) (s:ByteArray) (w:World) (hv:ItsAt w v l) (hl:l.length≤100000) (hid:id<18446744073709551616):Calls Tryz.prog 30 #[v,.int .u64 id,.string s] w (RPutEnd l id s w):=by
 by_cases h:putE l id s=0
 ·exact rput_yes v l id s w hv hl h
 ·exact rput_no v l id s w hv hid h
end Go.Proofs.YtdnmgpcfgcidbaaGreatDoor
namespace Go.Proofs.YtdnmgpcfgcidbaaGreatDoor
set_option linter.unusedVariables false
set_option linter.unusedSimpArgs false
theorem mem_low {id:Nat} {l:List It} {t:It} (h:t ∈ lowI id l):t.1<id:=by
 unfold lowI at h
 induction l with
 | nil=>simp at h
 | cons x l ih =>
  rw [List.takeWhile_cons] at h
  split at h
  ·rename_i hx
   rcases List.mem_cons.1 h with rfl|h
   ·simpa using hx
   ·exact ih h
  ·simp at h
theorem mem_lh (id:Nat) (l:List It) (t:It):t ∈ l↔t ∈ lowI id l∨t ∈ highI id l:=by
 conv=>lhs;rw [← low_high id l]
 exact List.mem_append
theorem high_ge {id:Nat} {l:List It} (hr:Rise l):∀ t ∈ highI id l,id≤t.1:=by
 unfold highI
 induction l with
 | nil=>intro t h;simp at h
 | cons x l ih =>
  intro t h
  rw [List.dropWhile_cons] at h
  split at h
  ·exact ih (List.pairwise_cons.1 hr).2 t h
  ·rename_i hx
   rcases List.mem_cons.1 h with rfl|h
   ·simpa using hx
   ·have:=(List.pairwise_cons.1 hr).1 t h
    have hx':¬ x.1<id:=by simpa using hx
    omega
theorem del_rise {id:Nat} {l:List It} (hr:Rise l):Rise (delI id l):=List.Pairwise.sublist List.filter_sublist hr
theorem mem_del (id:Nat) (l:List It) (t:It):t ∈ delI id l↔t ∈ l∧t.1≠id:=by
 unfold delI
 rw [List.mem_filter]
 simp
theorem mem_put (id:Nat) (s:ByteArray) (l:List It) (t:It):t ∈ putI id s l↔t=(id,s)∨(t ∈ l∧t.1≠id):=by
 unfold putI
 rw [List.mem_append,List.mem_cons,← mem_del,mem_lh id (delI id l) t]
 constructor
 ·rintro (h|h|h)
  ·exact .inr (.inl h)
  ·exact .inl h
  ·exact .inr (.inr h)
 ·rintro (h|h|h)
  ·exact .inr (.inl h)
  ·exact .inl h
  ·exact .inr (.inr h)
theorem put_rise (id:Nat) (s:ByteArray) {l:List It} (hr:Rise l):Rise (putI id s l):=by
 have hd:=del_rise (id:=id) hr
 have hsplit:=low_high id (delI id l)
 have hp:Rise (lowI id (delI id l)++highI id (delI id l)):=by rw [hsplit];exact hd
 unfold Rise at hp
 rw [List.pairwise_append] at hp
 unfold Rise putI
 rw [List.pairwise_append,List.pairwise_cons]
 refine ⟨hp.1,⟨fun t ht=>?_,hp.2.1⟩,fun a ha b hb=>?_⟩
 ·have h1:=high_ge hd t ht
  have h2:t ∈ delI id l:=(mem_lh id _ t).2 (.inr ht)
  have h3:=(mem_del id l t).1 h2
  show id<t.1
  omega
 ·rcases List.mem_cons.1 hb with rfl|hb
  ·exact mem_low ha
  ·exact hp.2.2 a ha b hb
theorem del_len_lt {id:Nat} {l:List It} {t:It} (h:t ∈ l) (ht:t.1=id):(delI id l).length+1≤l.length:=by
 induction l with
 | nil=>simp at h
 | cons x l ih =>
  have hle:=delI_len id l
  unfold delI at hle ih ⊢
  by_cases hx:x.1=id
  ·rw [List.filter_cons_of_neg (by simpa using hx),List.length_cons]
   omega
  ·rw [List.filter_cons_of_pos (by simpa using hx),List.length_cons,List.length_cons]
   rcases List.mem_cons.1 h with rfl|h
   ·exact absurd ht hx
   ·have:=ih h;omega
theorem put_len (id:Nat) (s:ByteArray) (l:List It):(putI id s l).length=(delI id l).length+1:=by
 have h1:=congrArg List.length (low_high id (delI id l))
 rw [List.length_append] at h1
 unfold putI
 rw [List.length_append,List.length_cons]
 omega
theorem getI_some (id:Nat) (l:List It):(getI id l).isSome=true↔∃ t ∈ l,t.1=id:=by
 have h:=getI_none id l
 cases hg:getI id l with
 | none =>
  rw [hg] at h
  constructor
  ·intro hh;cases hh
  ·rintro ⟨t,ht,e⟩
   exact absurd e ((h.1 rfl) t ht)
 | some s =>
  refine ⟨fun _=>?_,fun _=>rfl⟩
  rcases Classical.em (∃ t ∈ l,t.1=id) with h2|h2
  ·exact h2
  ·exfalso
   have:getI id l=none:=(getI_none id l).2 (fun t ht e=>h2 ⟨t,ht,e⟩)
   rw [this] at hg
   cases hg
theorem good_put {id:Nat} {s:ByteArray} {l:List It} (h:GoodC l):GoodC (putL l id s):=by
 unfold putL
 split
 ·rename_i he
  unfold putE at he
  by_cases h1:6004799503160661≤id
  ·rw [if_pos h1] at he;cases he
  rw [if_neg h1] at he
  by_cases h2:s.size=0
  ·rw [if_pos h2] at he;cases he
  rw [if_neg h2] at he
  by_cases h3:65536<s.size
  ·rw [if_pos h3] at he;cases he
  rw [if_neg h3] at he
  refine ⟨put_rise id s h.rise,fun t ht=>?_,fun t ht=>?_,fun t ht=>?_,?_⟩
  ·rcases (mem_put id s l t).1 ht with rfl|h4
   ·show id<_;omega
   ·exact h.low t h4.1
  ·rcases (mem_put id s l t).1 ht with rfl|h4
   ·show 0<s.size;omega
   ·exact h.pos t h4.1
  ·rcases (mem_put id s l t).1 ht with rfl|h4
   ·show s.size≤_;omega
   ·exact h.short t h4.1
  ·rw [put_len]
   have hf:=h.few
   cases hg:getI id l with
   | none =>
    rw [hg] at he
    have h5:¬ 2048≤l.length:=by
     intro h6
     rw [if_pos (by simp [h6])] at he
     cases he
    have:=delI_len id l
    omega
   | some x =>
    obtain ⟨t,ht,e⟩:=(getI_some id l).1 (by rw [hg];rfl)
    have:=del_len_lt ht e
    omega
 ·exact h
theorem rise_ext:∀ {a b:List It},Rise a→Rise b→(∀ t,t ∈ a↔t ∈ b)→a=b
 | [],[],_,_,_=>rfl
 | [],y :: b,_,_,h=>by have:=(h y).2 (by simp);simp at this
 | x :: a,[],_,_,h=>by have:=(h x).1 (by simp);simp at this
 | x :: a,y :: b,ha,hb,h=>by
  have hx:=List.pairwise_cons.1 ha
  have hy:=List.pairwise_cons.1 hb
  have hxy:x=y:=by
   rcases List.mem_cons.1 ((h x).1 (by simp)) with e|e
   ·exact e
   ·rcases List.mem_cons.1 ((h y).2 (by simp)) with e2|e2
    ·exact e2.symm
    ·have h1:=hy.1 x e
     have h2:=hx.1 y e2
     omega
  subst hxy
  have:a=b:=rise_ext hx.2 hy.2 (fun t=>by
   constructor
   ·intro ht
    rcases List.mem_cons.1 ((h t).1 (List.mem_cons_of_mem _ ht)) with e|e
    ·subst e;have:=hx.1 t ht;omega
    ·exact e
   ·intro ht
    rcases List.mem_cons.1 ((h t).2 (List.mem_cons_of_mem _ ht)) with e|e
    ·subst e;have:=hy.1 t ht;omega
    ·exact e)
  rw [this]
theorem ofR_all (all:List It) (hg:GoodC all):∀ (rest seen acc:List It),(seen++rest).Nodup→(∀ t ∈ seen++rest,t ∈ all)→Rise acc→(∀ t,t ∈ acc↔t ∈ seen)→acc.length=seen.length→seen.length+rest.length≤2048→∃ r,ofR seen acc rest=(r,0)∧Rise r∧∀ t,t ∈ r↔t ∈ seen++rest
 | [],seen,acc,_,_,hr,hm,_,_=>⟨acc,rfl,hr,fun t=>by rw [List.append_nil];exact hm t⟩
 | t :: rest,seen,acc,hn,hin,hr,hm,hl,h2=>by
  have hta:t ∈ all:=hin t (by simp)
  have huniq:∀ u ∈ all,u.1=t.1→u=t:=by
   intro u hu e
   have hp:=hg.rise
   unfold Rise at hp
   rcases List.mem_iff_getElem.1 hu with ⟨i,hi,rfl⟩
   rcases List.mem_iff_getElem.1 hta with ⟨j,hj,rfl⟩
   rw [List.pairwise_iff_getElem] at hp
   rcases Nat.lt_trichotomy i j with h|h|h
   ·have:=hp i j hi hj h;omega
   ·subst h;rfl
   ·have:=hp j i hj hi h;omega
  have hnot:t ∉ seen:=by
   intro h
   rw [List.nodup_append] at hn
   exact hn.2.2 t h t (by simp) rfl
  have hnone:∀ l:List It,(∀ u ∈ l,u ∈ all)→t ∉ l→getI t.1 l=none:=fun l hl hn=>(getI_none t.1 l).2 (fun u hu e=>hn (huniq u (hl u hu) e ▸ hu))
  have hs:getI t.1 seen=none:=hnone seen (fun u hu=>hin u (by simp [hu])) hnot
  have ha:getI t.1 acc=none:=hnone acc (fun u hu=>hin u (by simp [(hm u).1 hu])) (fun h=>hnot ((hm t).1 h))
  have hacc:acc.length≤2047:=by rw [hl];simp at h2;omega
  have he:putE acc t.1 t.2=0:=by
   unfold putE
   rw [if_neg (by have:=hg.low t hta;omega),if_neg (by have:=hg.pos t hta;omega),if_neg (by have:=hg.short t hta;omega),if_neg]
   simp;omega
  rw [ofR,hs,he]
  have hdel:delI t.1 acc=acc:=by
   unfold delI
   rw [List.filter_eq_self]
   intro u hu
   have:=(getI_none t.1 acc).1 ha u hu
   simpa using this
  have hm':∀ u,u ∈ putI t.1 t.2 acc↔u ∈ seen++[t]:=by
   intro u
   rw [mem_put,List.mem_append,List.mem_singleton]
   constructor
   ·rintro (h|⟨h,_⟩)
    ·exact .inr h
    ·exact .inl ((hm u).1 h)
   ·rintro (h|h)
    ·exact .inr ⟨(hm u).2 h,(getI_none t.1 seen).1 hs u h⟩
    ·exact .inl h
  have hl':(putI t.1 t.2 acc).length=(seen++[t]).length:=by rw [put_len,hdel,hl];simp
  have e:seen++t :: rest=(seen++[t])++rest:=by simp
  obtain ⟨r,h1,h3,h4⟩:=ofR_all all hg rest (seen++[t]) (putI t.1 t.2 acc) (e ▸ hn) (e ▸ hin) (put_rise _ _ hr) hm' hl' (by simp at h2 ⊢;omega)
  refine ⟨r,?_,h3,fun u=>by rw [e];exact h4 u⟩
  simpa using h1
theorem of_perm (all m:List It) (hg:GoodC all) (hp:m.Perm all):ofI m=(all,0):=by
 have hnd:all.Nodup:=List.Pairwise.imp (fun {a b} h e=>by subst e;omega) hg.rise
 obtain ⟨r,h1,h2,h3⟩:=ofR_all all hg m [] [] (by simpa using hp.nodup_iff.2 hnd) (fun t ht=>by simpa using hp.mem_iff.1 (by simpa using ht)) List.Pairwise.nil (by simp) rfl (by have:=hg.few;have:=hp.length_eq;simp;omega)
 have:r=all:=rise_ext h2 hg.rise (fun t=>by rw [h3 t];simpa using hp.mem_iff)
 unfold ofI
 rw [h1,this]
end Go.Proofs.YtdnmgpcfgcidbaaGreatDoor
namespace Go.Proofs.YtdnmgpcfgcidbaaGreatDoor
set_option linter.unusedVariables false
set_option linter.unusedSimpArgs false
open Go.RowKit
set_option maxRecDepth 20000
theorem nan_anyC (x:Int) (w:World):Calls Tryz.prog 228 #[.int .u64 x] w fun e w'=>e=.returned (.bool false)∧w'=w:=by
 go_enter Tryz.func228,Tryz.ntmps228
 go_wp2
 go_ret
 exact ⟨rfl,rfl⟩
def cmpIC (x y:Int):Int:=if x<y then -1 else if x > y then 1 else 0
set_option maxHeartbeats 1000000 in
theorem compare_anyC (x y:Int) (w:World):Calls Tryz.prog 192 #[.int .u64 x,.int .u64 y] w fun e w'=>e=.returned (.int .i64 (cmpIC x y))∧w'=w:=by
 have HN:=Lib.hid (fun a W=>nan_anyC a W)
 unfold cmpIC
 by_cases h:x<y
 ·rw [if_pos h]
  go_enter Tryz.func192,Tryz.ntmps192
  go_wp2_with fail
  refine (HN.out _ _).mono ?_
  rintro e w1 ⟨rfl,rfl⟩
  go_wp2_with fail
  refine (HN.out _ _).mono ?_
  rintro e w1 ⟨rfl,rfl⟩
  go_wp2_with fail
  go_ret
  exact ⟨rfl,rfl⟩
 ·rw [if_neg h]
  by_cases h2:x > y
  ·rw [if_pos h2]
   go_enter Tryz.func192,Tryz.ntmps192
   go_wp2_with fail
   refine (HN.out _ _).mono ?_
   rintro e w1 ⟨rfl,rfl⟩
   go_wp2_with fail
   refine (HN.out _ _).mono ?_
   rintro e w1 ⟨rfl,rfl⟩
   go_wp2_with fail
   go_ret
   exact ⟨rfl,rfl⟩
  ·rw [if_neg h2]
   go_enter Tryz.func192,Tryz.ntmps192
   go_wp2_with fail
   refine (HN.out _ _).mono ?_
   rintro e w1 ⟨rfl,rfl⟩
   go_wp2_with fail
   refine (HN.out _ _).mono ?_
   rintro e w1 ⟨rfl,rfl⟩
   go_wp2_with fail
   go_ret
   exact ⟨rfl,rfl⟩
theorem cmpI_ltC (x y:Int):decide (cmpIC x y<0)=decide (x<y):=by
 unfold cmpIC
 by_cases h:x<y
 ·simp [h]
 ·by_cases h2:x > y <;> simp [h,h2]
theorem cmpI_eqC (x y:Int):decide (cmpIC x y=0)=decide (x=y):=by
 unfold cmpIC
 by_cases h:x<y
 ·simp [h];omega
 ·by_cases h2:x > y
  ·simp [h,h2];omega
  ·simp [h,h2];omega
theorem against_anyC (t:It) (y:Nat) (w:World):Calls Tryz.prog 128 #[.agg #[.int .u64 t.1,.string t.2],.int .u64 y] w fun e w'=>e=.returned (.int .i64 (cmpIC t.1 y))∧Below w.heap.size w w':=by
 have HC:=Lib.hid (fun W=>compare_anyC t.1 y W)
 go_enter Tryz.func128,Tryz.ntmps128
 go_wp2_with fail
 refine (HC.out _).mono ?_
 rintro e w1 ⟨rfl,rfl⟩
 go_wp2_with fail
 go_ret
 exact ⟨rfl,by go_grown⟩
def loC (id:Nat) (l:List It):Nat:=(lowI id l).length
theorem loC_le (id:Nat) (l:List It):loC id l≤l.length:=low_le id l
theorem high_at {id:Nat} {l:List It} (hr:Rise l) (d:Nat) (t:It) (h:l[d]?=some t):t.1<id↔d<loC id l:=by
 constructor
 ·intro ht
  rcases Nat.lt_or_ge d (loC id l) with h1|h1
  ·exact h1
  ·exfalso
   have h2:(highI id l)[d-loC id l]?=some t:=by
    rw [← low_drop id l,List.getElem?_drop]
    show l[loC id l+(d-loC id l)]?=some t
    rw [Nat.add_sub_cancel' h1]
    exact h
   have:=high_ge hr t (List.mem_of_getElem? h2)
   omega
 ·intro hd
  obtain ⟨u,hu,hlt⟩:=low_at id l d hd
  rw [h] at hu
  cases hu
  exact hlt
theorem isC {id:Nat} {l:List It} (hr:Rise l):(getI id l).isSome=decide (∃ t,l[loC id l]?=some t∧t.1=id):=by
 rw [Bool.eq_iff_iff,getI_some,decide_eq_true_iff]
 constructor
 ·rintro ⟨t,ht,he⟩
  obtain ⟨d,hd⟩:=List.mem_iff_getElem?.1 ht
  have h1:=(high_at (id:=id) hr d t hd)
  have h2:¬ d<loC id l:=fun h=>by have:=h1.2 h;omega
  rcases Nat.lt_or_ge (loC id l) d with h3|h3
  ·exfalso
   obtain ⟨u,hu⟩:∃ u,l[loC id l]?=some u:=⟨_,List.getElem?_eq_getElem (by have:=(List.getElem?_eq_some_iff.1 hd).1;omega)⟩
   have h4:=low_end id l u hu
   have h5:u.1<t.1:=by
    obtain ⟨a1,rfl⟩:=List.getElem?_eq_some_iff.1 hu
    obtain ⟨a2,rfl⟩:=List.getElem?_eq_some_iff.1 hd
    exact List.pairwise_iff_getElem.1 hr _ _ a1 a2 h3
   omega
  ·have:d=loC id l:=by omega
   subst this
   exact ⟨t,hd,he⟩
 ·rintro ⟨t,ht,he⟩
  exact ⟨t,List.mem_of_getElem? ht,he⟩
theorem del_no {id:Nat} {l:List It} (h:(getI id l).isSome=false):delI id l=l:=by
 unfold delI
 rw [List.filter_eq_self]
 intro u hu
 have hn:getI id l=none:=by cases hg:getI id l with|none=>rfl|some x=>rw [hg] at h;cases h
 have:=(getI_none id l).1 hn u hu
 simpa using this
theorem del_yes {id:Nat} {l:List It} (hr:Rise l) (t:It) (h:l[loC id l]?=some t) (he:t.1=id):delI id l=l.take (loC id l)++l.drop (loC id l+1):=by
 apply rise_ext (del_rise hr)
 ·have e:(l.take (loC id l)++l.drop (loC id l+1)).Sublist l:=by
   conv=>rhs;rw [← List.take_append_drop (loC id l) l]
   refine List.Sublist.append (List.Sublist.refl _) ?_
   rw [idrop_at l _ t h]
   exact List.sublist_cons_self _ _
  exact List.Pairwise.sublist e hr
 ·intro u
  have hl:u ∈ l↔u ∈ l.take (loC id l)∨u=t∨u ∈ l.drop (loC id l+1):=by
   conv=>lhs;rw [← List.take_append_drop (loC id l) l,idrop_at l _ t h]
   rw [List.mem_append,List.mem_cons]
  rw [mem_del,hl,List.mem_append]
  have hlt:∀ u ∈ l.take (loC id l),u.1<id:=by
   intro u hu
   have:u ∈ lowI id l:=by
    have e:=low_take id l
    unfold loC at hu
    rwa [e] at hu
   exact mem_low this
  have hgt:∀ u ∈ l.drop (loC id l+1),id<u.1:=by
   intro u hu
   obtain ⟨j,hj⟩:=List.mem_iff_getElem?.1 hu
   rw [List.getElem?_drop] at hj
   obtain ⟨a1,e1⟩:=List.getElem?_eq_some_iff.1 h
   obtain ⟨a2,e2⟩:=List.getElem?_eq_some_iff.1 hj
   have:=List.pairwise_iff_getElem.1 hr _ _ a1 a2 (by omega)
   rw [e1,e2] at this
   omega
  constructor
  ·rintro ⟨h1|h1|h1,h2⟩
   ·exact .inl h1
   ·subst h1;exact absurd he h2
   ·exact .inr h1
  ·rintro (h1|h1)
   ·exact ⟨.inl h1,by have:=hlt u h1;omega⟩
   ·exact ⟨.inr (.inr h1),by have:=hgt u h1;omega⟩
theorem put_no {id:Nat} {s:ByteArray} {l:List It} (h:(getI id l).isSome=false):putI id s l=l.take (loC id l)++(id,s) :: l.drop (loC id l):=by
 unfold putI
 rw [del_no h]
 unfold loC
 rw [low_take,low_drop]
theorem put_yes {id:Nat} {s:ByteArray} {l:List It} (hr:Rise l) (t:It) (h:l[loC id l]?=some t) (he:t.1=id):putI id s l=l.take (loC id l)++(id,s) :: l.drop (loC id l+1):=by
 apply rise_ext (put_rise id s hr)
 ·have hd:Rise (l.take (loC id l)++l.drop (loC id l+1)):=by rw [← del_yes hr t h he];exact del_rise hr
  have hlt:∀ u ∈ l.take (loC id l),u.1<id:=by
   intro u hu
   have:u ∈ lowI id l:=by
    have e:=low_take id l
    unfold loC at hu
    rwa [e] at hu
   exact mem_low this
  have hgt:∀ u ∈ l.drop (loC id l+1),id<u.1:=by
   intro u hu
   obtain ⟨j,hj⟩:=List.mem_iff_getElem?.1 hu
   rw [List.getElem?_drop] at hj
   obtain ⟨a1,e1⟩:=List.getElem?_eq_some_iff.1 h
   obtain ⟨a2,e2⟩:=List.getElem?_eq_some_iff.1 hj
   have:=List.pairwise_iff_getElem.1 hr _ _ a1 a2 (by omega)
   rw [e1,e2] at this
   omega
  unfold Rise at hd ⊢
  rw [List.pairwise_append] at hd ⊢
  rw [List.pairwise_cons]
  refine ⟨hd.1,⟨fun u hu=>hgt u hu,hd.2.1⟩,fun a ha b hb=>?_⟩
  rcases List.mem_cons.1 hb with rfl|hb
  ·exact hlt a ha
  ·exact hd.2.2 a ha b hb
 ·intro u
  rw [mem_put,← mem_del,del_yes hr t h he,List.mem_append,List.mem_append,List.mem_cons]
  constructor
  ·rintro (h1|h1|h1)
   ·exact .inr (.inl h1)
   ·exact .inl h1
   ·exact .inr (.inr h1)
  ·rintro (h1|h1|h1)
   ·exact .inr (.inl h1)
   ·exact .inl h1
   ·exact .inr (.inr h1)
end Go.Proofs.YtdnmgpcfgcidbaaGreatDoor
