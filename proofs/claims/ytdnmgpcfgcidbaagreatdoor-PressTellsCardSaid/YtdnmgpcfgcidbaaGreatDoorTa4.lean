/- aMb aEb aNb. -/
import Derived.Test.YtdnmgpcfgcidbaaGreatDoorTa3
import Derived.Test.YtdnmgpcfgcidbaaGreatDoorTs
namespace Go.Proofs.YtdnmgpcfgcidbaaGreatDoor
set_option linter.unusedVariables false
set_option linter.unusedSimpArgs false
set_option maxRecDepth 20000
structure RInv (P:List It) (rows:List En) (ts:List ByteArray):Prop where
 good:GoodP ts
 len:ts.length≤P.length
 mem:∀ s,s ∈ ts↔∃ t ∈ P,t.2=s
 ok:∀ e ∈ rows,OkE e ts
 row:rowG (-1) rows=0
 exp:expN rows (catF ts)=P
 one:NoOne rows
 few:rows.length≤P.length
 last:∀ r a,rows=r++[a]→∃ P' t,P=P'++[t]∧laN a=(t.1:Int)
theorem rinv_nil:RInv [] [] []:=⟨goodP_nil,Nat.le_refl _,by simp,by simp,rfl,rfl,noOne_nil,Nat.le_refl _,fun r a h=>by simp at h⟩
theorem la_ok {e:En} (h:ckN e=0) (hr:1≤e.rn):laN e=e.id+e.rn - 1:=by
 unfold laN wdN
 rw[if_pos h,if_neg (by omega)]
theorem rowG_snoc (r:List En) (e:En) (p:Int) (h:rowG p r=0) (hck:ckN e=0) (hp:(r.foldl (fun _ e=>laN e) p)<e.id):rowG p (r++[e])=0:=by
 rw[rowG_append p r [e] h,rowG,if_neg (by simpa using hck),if_neg (by omega)]
 rfl
theorem rowG_snoc_inv (r:List En) (e:En) (p:Int) (h:rowG p (r++[e])=0):rowG p r=0∧ckN e=0∧(r.foldl (fun _ e=>laN e) p)<e.id:=by
 have h1:=rowG_left p r [e] h
 rw[rowG_append p r [e] h1] at h
 obtain⟨h2,h3,_⟩:=rowG_cons _ e [] h
 exact⟨h1,h2,h3⟩
theorem fold_snoc (r:List En) (a:En) (p:Int):(r++[a]).foldl (fun _ e=>laN e) p=laN a:=by simp
theorem rinv_step {P:List It} {rows:List En} {ts:List ByteArray} (h:RInv P rows ts) (t:It) (hr:∀ u ∈ P,u.1<t.1) (hlow:t.1<6004799503160661) (h0:0<t.2.size) (h1:t.2.size≤65536) (hf:P.length<2048) :
  RInv (P++[t]) (stepR (rows,ts) t).1 (stepR (rows,ts) t).2:=by
 have hl:ts.length<2048:=Nat.lt_of_le_of_lt h.len hf
 obtain⟨hlen,hfind⟩:=new_place h0 h1 hl
 have hgood:=h.good.add t.2
 have hnl:=newL_len ts t.2
 have hmem:∀ s,s ∈ newL ts t.2↔∃ u ∈ P++[t],u.2=s:=by
  intro s
  rw[mem_newL ts t.2 s h0 h1 hl,h.mem]
  constructor
  ·rintro(⟨u,hu,he⟩|rfl)
   ·exact⟨u,by simp[hu],he⟩
   ·exact⟨t,by simp,rfl⟩
  ·rintro⟨u,hu,he⟩
   rcases List.mem_append.1 hu with hu|hu
   ·exact .inl ⟨u,hu,he⟩
   ·rw[List.mem_singleton.1 hu] at he
    exact .inr he.symm
 have hexp:expN rows (catF (newL ts t.2))=P:=by rw[exp_grow h.ok,h.exp]
 have hok:∀ e ∈ rows,OkE e (newL ts t.2):=fun e he=>((h.ok e he).grow t.2).1
 have hle:=findF_le _ _ _ _ hfind
 have htot:=hgood.tot
 obtain⟨e1,he1⟩:∃ e1,newE ts t=e1:=⟨_,rfl⟩
 have d1:e1.id=(t.1:Int):=by rw[← he1];rfl
 have d2:e1.off=(offA ts t.2:Int):=by rw[← he1];rfl
 have d3:e1.ln=(t.2.size:Int):=by rw[← he1];show ((lenA ts t.2:Nat):Int)=_;rw[hlen]
 have d4:e1.rn=1:=by rw[← he1];rfl
 have dck:ckN e1=0:=by
  unfold ckN cnN wdN
  rw[if_neg (by omega),if_neg (by rw[if_neg (by omega)];omega),if_neg (by omega)]
 have dla:laN e1=(t.1:Int):=by rw[la_ok dck (by omega)];omega
 have dok:OkE e1 (newL ts t.2):=⟨by unfold MayN;omega,dck,by omega,t.2,by rw[hfind,d2,Int.toNat_natCast],d3⟩
 have dtx:txN e1 (catF (newL ts t.2))=t.2:=ok_text (by rw[hfind,d2,Int.toNat_natCast]) d3
 have drun:runN e1 (catF (newL ts t.2))=[t]:=by
  unfold runN
  rw[d4,dtx,d1]
  show (List.range 1).map _=_
  simp
 show RInv (P++[t]) (addE rows (newE ts t)) (newL ts t.2)
 rw[he1]
 rcases List.eq_nil_or_concat rows with rfl|⟨r,a,rfl⟩
 ·have hP:P=[]:=by rw[← h.exp];rfl
  subst hP
  rw[addE_nil]
  refine⟨hgood,by have h2:=h.len;simp only[List.length_nil,List.nil_append,List.length_singleton] at h2 ⊢;omega,hmem,by simpa using dok,?_,?_,?_,by simp,?_⟩
  ·exact rowG_snoc [] e1 (-1) rfl dck (by simp;omega)
  ·rw[expN_one,drun];rfl
  ·exact noOne_snoc noOne_nil (fun r a h=>by simp at h)
  ·intro r a h
   obtain⟨_,rfl⟩:=List.append_inj' (show []++[e1]=r++[a] by simpa using h) rfl |>.imp id (fun h=>by simpa using h)
   exact⟨[],t,rfl,dla⟩
 ·rw[List.concat_eq_append] at *
  obtain⟨P',t0,hP,hla⟩:=h.last r a rfl
  have ha:=h.ok a (by simp)
  obtain⟨hrow,hcka,hpa⟩:=rowG_snoc_inv r a (-1) h.row
  have hlt:t0.1<t.1:=hr t0 (by rw[hP];simp)
  have hlaa:=la_ok ha.ck ha.run
  have hrun:=ha.run
  have hmay:=ha.may
  have hrn:a.rn.toNat≤P.length:=by
   have:=congrArg List.length h.exp
   rw[expN_append,expN_one,List.length_append,runN_len] at this
   omega
  rw[addE_concat]
  by_cases hone:oneE a e1=true
  ·rw[if_pos hone]
   have hone':=of_decide_eq_true hone
   obtain⟨o1,o2,o3⟩:=hone'
   obtain⟨a2,ha2⟩:∃ a2:En,a2={ a with rn:=a.rn+1 }:=⟨_,rfl⟩
   have b1:a2.id=a.id:=by rw[ha2]
   have b2:a2.off=a.off:=by rw[ha2]
   have b3:a2.ln=a.ln:=by rw[ha2]
   have b4:a2.rn=a.rn+1:=by rw[ha2]
   rw[← ha2]
   clear ha2
   have hck:=ck_ok a ha.ck
   have hck2:ckN a2=0:=by
    unfold ckN cnN wdN
    rw[if_neg (by omega),if_neg (by rw[if_neg (by omega)];omega),if_neg (by omega)]
   have hla2:laN a2=(t.1:Int):=by rw[la_ok hck2 (by omega)];omega
   have haok:=hok a (by simp)
   have hok2:OkE a2 (newL ts t.2):=by
    obtain⟨s,f1,f2⟩:=haok.txt
    unfold MayN at hmay
    exact⟨by unfold MayN;omega,hck2,by omega,s,by rw[b2];exact f1,by rw[b3];exact f2⟩
   have htx2:txN a (catF (newL ts t.2))=t.2:=by
    have hx:txN a (catF (newL ts t.2))=txN e1 (catF (newL ts t.2)):=by unfold txN;rw[o2,o3]
    rw[hx]
    exact dtx
   have hrun2:runN a2 (catF (newL ts t.2))=runN a (catF (newL ts t.2))++[t]:=by
    have hx:txN a2 (catF (newL ts t.2))=t.2:=by
     have hy:txN a2 (catF (newL ts t.2))=txN a (catF (newL ts t.2)):=by unfold txN;rw[b2,b3]
     rw[hy]
     exact htx2
    unfold runN
    rw[hx,htx2,b4,b1,show (a.rn+1).toNat=a.rn.toNat+1 by omega,List.range_succ,List.map_append]
    congr 1
    simp only[List.map_cons,List.map_nil]
    congr 1
    refine Prod.ext ?_ rfl
    show a.id.toNat+a.rn.toNat=t.1
    unfold MayN at hmay
    omega
   refine⟨hgood,?_,hmem,?_,?_,?_,?_,?_,?_⟩
   ·rw[List.length_append,List.length_singleton];have:=h.len;omega
   ·intro e he
    rcases List.mem_append.1 he with he|he
    ·exact hok e (by simp[he])
    ·rw[List.mem_singleton.1 he];exact hok2
   ·exact rowG_snoc r a2 (-1) hrow hck2 (by rw[b1];exact hpa)
   ·rw[expN_append,expN_one] at hexp ⊢
    rw[hrun2,← List.append_assoc,hexp]
   ·exact noOne_last h.one ⟨b1,b2,b3⟩
   ·have:=h.few
    simp at this ⊢
    omega
   ·intro r' x hx
    obtain⟨_,hx2⟩:=List.append_inj' hx rfl
    simp at hx2
    subst hx2
    exact⟨P,t,rfl,hla2⟩
  ·have hone':oneE a e1=false:=by simpa using hone
   rw[if_neg hone]
   refine⟨hgood,?_,hmem,?_,?_,?_,?_,?_,?_⟩
   ·rw[List.length_append,List.length_singleton];have:=h.len;omega
   ·intro e he
    rcases List.mem_append.1 he with he|he
    ·exact hok e he
    ·rw[List.mem_singleton.1 he];exact dok
   ·exact rowG_snoc (r++[a]) e1 (-1) h.row dck (by rw[fold_snoc];omega)
   ·rw[expN_append,hexp,expN_one,drun]
   ·refine noOne_snoc h.one (fun r' x hx=>?_)
    obtain⟨_,hx2⟩:=List.append_inj' hx rfl
    simp at hx2
    subst hx2
    exact hone'
   ·have:=h.few
    simp at this ⊢
    omega
   ·intro r' x hx
    obtain⟨_,hx2⟩:=List.append_inj' hx rfl
    simp at hx2
    subst hx2
    exact⟨P,t,rfl,dla⟩
theorem rinv_take {L:List It} (hg:GoodC L):∀ k,k≤L.length→RInv (L.take k) (rowsS (L.take k)).1 (rowsS (L.take k)).2:=by
 intro k
 induction k with
 | zero=>intro _;exact rinv_nil
 | succ k ih =>
  intro hk
  obtain⟨t,ht⟩:∃ t,L[k]?=some t:=⟨_,List.getElem?_eq_getElem (by omega)⟩
  have hm:=List.mem_of_getElem? ht
  rw[rowsS_step L k t ht,itake_at L k t ht]
  refine rinv_step (ih (by omega)) t (fun u hu=>?_) (hg.low t hm) (hg.pos t hm) (hg.short t hm) (by rw[List.length_take];have:=hg.few;omega)
  obtain⟨j,hj⟩:=List.mem_iff_getElem?.1 hu
  rw[List.getElem?_take] at hj
  split at hj
  ·rename_i hjk
   obtain⟨h1,rfl⟩:=List.getElem?_eq_some_iff.1 hj
   obtain⟨h2,rfl⟩:=List.getElem?_eq_some_iff.1 ht
   exact List.pairwise_iff_getElem.1 hg.rise j k h1 h2 hjk
  ·cases hj
theorem rinv_all {L:List It} (hg:GoodC L):RInv L (rowsS L).1 (rowsS L).2:=by
 have h:=rinv_take hg L.length (Nat.le_refl _)
 rwa[List.take_length] at h
end Go.Proofs.YtdnmgpcfgcidbaaGreatDoor
namespace Go.Proofs.YtdnmgpcfgcidbaaGreatDoor
set_option linter.unusedVariables false
set_option linter.unusedSimpArgs false
open Go.RowKit
set_option maxRecDepth 20000
set_option maxRecDepth 20000 in
set_option maxHeartbeats 1000000 in
theorem rlastN_any (e:En) (w:World) (hm:MayN e):Calls Tryz.prog 157 #[.agg (eC e)] w fun x w'=>x=.returned (.int .u64 (laN e))∧Below w.heap.size w w':=by
 have HW:=Lib.hid (fun W=>rwide_any e W hm)
 have HC:=Lib.hid (fun W=>rcheckN_any e W hm)
 have H0:=EAt.made w e 185
 have HB:Below w.heap.size w (w.alloc (.cells (eC e) 185)):=(Below.refl _ _).alloc (Nat.le_refl _) _
 have hwd:=wd_pos e hm.2.2.2.1
 by_cases h0:ckN e=0
 ·have hb:=ck_ok e h0
  have hi:=hm.1
  have hw1:IntKind.u64.wrap (e.id+wdN e)=e.id+wdN e:=by rw[IntKind.wrap_u64] <;> omega
  have hw2:IntKind.u64.wrap (e.id+wdN e - 1)=e.id+wdN e - 1:=by rw[IntKind.wrap_u64] <;> omega
  have hla:Hid (e.id+wdN e - 1=laN e):=Lib.hid (by unfold laN;rw[if_pos h0])
  rw[h0] at HC
  obtain⟨d,hd⟩:∃ d,wdN e=d:=⟨_,rfl⟩
  rw[hd] at HW hw1 hw2 hla
  clear hd h0 hb hm hwd
  unfold eC at HB HC HW ⊢
  obtain⟨c0,c1,c2,c3⟩:=H0
  unfold eC at c0 c1 c2 c3
  go_enter Tryz.func157,Tryz.ntmps157
  go_wp2_with fail
  refine(HC.out _).mono ?_
  rintro x w1 ⟨rfl,hb⟩
  have HS1:=keepE hb ⟨⟨c0,c1,c2,c3⟩,HB⟩
  have HS0:=keepE (Below.drew (Below.refl _ _)) HS1
  clear hb c0 c1 c2 c3 HB HS1
  go_upto_region 3 with fail
  refine wp_region_held_drew (S:=fun w'=>(w'.cell? ⟨w.heap.size,0,none⟩=some (.int .u64 e.id)∧w'.cell? ⟨w.heap.size,1,none⟩=some (.int .u64 e.off)∧w'.cell? ⟨w.heap.size,2,none⟩=some (.int .u32 e.ln)∧w'.cell? ⟨w.heap.size,3,none⟩=some (.int .u32 e.rn))∧Below w.heap.size w w') (by kernel_rfl) HS0 (fun hH0=>?_)
  refine tK 0 6 hH0 ?_
  try simp only[Act.put,zsA,zsB,zsC]
  refine tK 1 7 hH0 ?_
  try simp only[Act.put,zsA,zsB,zsC]
  refine tK 2 8 hH0 ?_
  try simp only[Act.put,zsA,zsB,zsC]
  refine wpAnyH_ready (rs:=[3]) (by kernel_rfl) (by simp) ?_
  refine AllReadyH.cons rfl (fun K hK=>?_) AllReadyH.nil
  go_simp
  refine(HW.out _).mono ?_
  rintro e w' ⟨rfl,hb⟩
  go_wp2_with fail
  refine hK.out _ _ (keepE hb hH0) (fun hH1=>?_)
  clear hK K hb hH0
  try simp only[Act.put,zsA,zsB,zsC]
  refine tK 4 10 hH1 ?_
  try simp only[Act.put,zsA,zsB,zsC]
  refine tK 5 11 hH1 ?_
  try simp only[Act.put,zsA,zsB,zsC]
  refine tK 6 2 hH1 ?_
  try simp only[Act.put,zsA,zsB,zsC]
  refine wpAnyH_done (by kernel_rfl) ?_ _
  go_wp2_with fail
  go_ret
  exact⟨ret_u64 hla.out,hH1.2⟩
 ·have hla:laN e=0:=by unfold laN;rw[if_neg h0]
  rw[hla]
  obtain⟨r,hr⟩:∃ r,ckN e=r:=⟨_,rfl⟩
  rw[hr] at HC h0
  have hne:(r != 0)=true:=by simp only[bne_iff_ne,ne_eq];exact h0
  clear hr h0 hm hla hwd HW
  unfold eC at HB HC ⊢
  obtain⟨c0,c1,c2,c3⟩:=H0
  unfold eC at c0 c1 c2 c3
  go_enter Tryz.func157,Tryz.ntmps157
  go_wp2_with fail
  refine(HC.out _).mono ?_
  rintro x w1 ⟨rfl,hb⟩
  have HS1:=keepE hb ⟨⟨c0,c1,c2,c3⟩,HB⟩
  have HU:=Lib.hid HS1.2
  clear hb c0 c1 c2 c3 HB HS1
  go_wp2_with fail
  go_ret
  exact⟨rfl,HU.out⟩
set_option maxHeartbeats 2000000 in
theorem rone_any (a b:En) (w:World) (ha:MayN a) (hb:MayN b):Calls Tryz.prog 91 #[.agg (eC a),.agg (eC b)] w fun x w'=>x=.returned (.bool (oneE a b))∧Below w.heap.size w w':=by
 have HL:=Lib.hid (fun W=>rlastN_any a W ha)
 have hla:0≤laN a∧laN a≤6004799503160660:=by
  by_cases h:ckN a=0
  ·have:=la_ge a ha h
   unfold MayN at ha
   omega
  ·unfold laN
   rw[if_neg h]
   omega
 have HR:Hid (oneE a b=decide (b.id=laN a+1∧a.off=b.off∧a.ln=b.ln)):=Lib.hid rfl
 generalize oneE a b=R at *
 generalize laN a=la at *
 have hw:IntKind.u64.wrap (la+1)=la+1:=by rw[IntKind.wrap_u64];omega
 have hea:=EAt.made w a 185
 have heb:=EAt.made (w.alloc (.cells (eC a) 185)) b 185
 have hea2:=hea.later (w':=(w.alloc (.cells (eC a) 185)).alloc (.cells (eC b) 185)) ((Below.refl _ _).alloc (Nat.le_refl _) _)
 have hbw:Below w.heap.size w ((w.alloc (.cells (eC a) 185)).alloc (.cells (eC b) 185)):=((Below.refl _ _).alloc (Nat.le_refl _) _).alloc (by simp) _
 simp only[World.size_alloc] at heb
 unfold eC at HL hea2 heb hbw ⊢
 obtain⟨W,hW⟩:∃ W,(w.alloc (.cells #[.int .u64 a.id,.int .u64 a.off,.int .u32 a.ln,.int .u32 a.rn] 185)).alloc (.cells #[.int .u64 b.id,.int .u64 b.off,.int .u32 b.ln,.int .u32 b.rn] 185)=W:=⟨_,rfl⟩
 rw[hW] at hea2 heb hbw
 have HK:Hid (∀ w',Below W.heap.size W w'→((w'.cell? ⟨w.heap.size,0,none⟩=some (.int .u64 a.id)∧w'.cell? ⟨w.heap.size,1,none⟩=some (.int .u64 a.off)∧w'.cell? ⟨w.heap.size,2,none⟩=some (.int .u32 a.ln)∧w'.cell? ⟨w.heap.size,3,none⟩=some (.int .u32 a.rn))∧(w'.cell? ⟨w.heap.size+1,0,none⟩=some (.int .u64 b.id)∧w'.cell? ⟨w.heap.size+1,1,none⟩=some (.int .u64 b.off)∧w'.cell? ⟨w.heap.size+1,2,none⟩=some (.int .u32 b.ln)∧w'.cell? ⟨w.heap.size+1,3,none⟩=some (.int .u32 b.rn)))∧Below W.heap.size W w'):=Lib.hid (fun w' h=>⟨⟨hea2.later h,heb.later h⟩,h⟩)
 have HB:=Lib.hid hbw
 clear hea hea2 heb hbw ha hb hla
 by_cases d1:b.id=la+1
 ·by_cases d2:a.off=b.off
  ·by_cases d3:a.ln=b.ln
   ·have HRR:Hid (R=true):=Lib.hid (by rw[HR.out,decide_eq_true_iff];exact⟨d1,d2,d3⟩)
    have e1:(b.id == la+1)=true:=by simpa using d1
    have e2:(a.off == b.off)=true:=by simpa using d2
    have e3:(a.ln == b.ln)=true:=by simpa using d3
    clear HR d1 d2 d3
    go_enter Tryz.func91,Tryz.ntmps91
    go_wp2_with fail
    refine wp_region_held_drew (S:=fun w'=>((w'.cell? ⟨w.heap.size,0,none⟩=some (.int .u64 a.id)∧w'.cell? ⟨w.heap.size,1,none⟩=some (.int .u64 a.off)∧w'.cell? ⟨w.heap.size,2,none⟩=some (.int .u32 a.ln)∧w'.cell? ⟨w.heap.size,3,none⟩=some (.int .u32 a.rn))∧(w'.cell? ⟨w.heap.size+1,0,none⟩=some (.int .u64 b.id)∧w'.cell? ⟨w.heap.size+1,1,none⟩=some (.int .u64 b.off)∧w'.cell? ⟨w.heap.size+1,2,none⟩=some (.int .u32 b.ln)∧w'.cell? ⟨w.heap.size+1,3,none⟩=some (.int .u32 b.rn)))∧Below W.heap.size W w') (by kernel_rfl) (HK.out _ (Below.drew (Below.refl _ _))) (fun hH0=>?_)
    refine tK 0 5 hH0 ?_
    try simp only[Act.put,zsA,zsB,zsC]
    refine tK 1 6 hH0 ?_
    try simp only[Act.put,zsA,zsB,zsC]
    refine tK 2 7 hH0 ?_
    try simp only[Act.put,zsA,zsB,zsC]
    refine wpAnyH_ready (rs:=[3]) (by kernel_rfl) (by simp) ?_
    refine AllReadyH.cons rfl (fun K hK=>?_) AllReadyH.nil
    go_simp
    refine(HL.out _).mono ?_
    rintro e w' ⟨rfl,hb⟩
    go_wp2_with fail
    refine hK.out _ _ (HK.out _ (hH0.2.trans (hb.mono hH0.2.size))) (fun hH1=>?_)
    clear hK K hb hH0
    try simp only[Act.put,zsA,zsB,zsC]
    refine tK 4 9 hH1 ?_
    try simp only[Act.put,zsA,zsB,zsC]
    refine tK 5 10 hH1 ?_
    try simp only[Act.put,zsA,zsB,zsC]
    refine tK 6 11 hH1 ?_
    try simp only[Act.put,zsA,zsB,zsC]
    refine tK 7 12 hH1 ?_
    try simp only[Act.put,zsA,zsB,zsC]
    refine tK 8 13 hH1 ?_
    try simp only[Act.put,zsA,zsB,zsC]
    refine tK 9 14 hH1 ?_
    try simp only[Act.put,zsA,zsB,zsC]
    refine tK 10 15 hH1 ?_
    try simp only[Act.put,zsA,zsB,zsC]
    refine tK 11 16 hH1 ?_
    try simp only[Act.put,zsA,zsB,zsC]
    refine tK 12 17 hH1 ?_
    try simp only[Act.put,zsA,zsB,zsC]
    refine tK 13 18 hH1 ?_
    try simp only[Act.put,zsA,zsB,zsC]
    refine tK 14 19 hH1 ?_
    try simp only[Act.put,zsA,zsB,zsC]
    refine tK 15 20 hH1 ?_
    try simp only[Act.put,zsA,zsB,zsC]
    refine tK 16 21 hH1 ?_
    try simp only[Act.put,zsA,zsB,zsC]
    refine tK 17 22 hH1 ?_
    try simp only[Act.put,zsA,zsB,zsC]
    refine tK 18 23 hH1 ?_
    try simp only[Act.put,zsA,zsB,zsC]
    refine tK 19 24 hH1 ?_
    try simp only[Act.put,zsA,zsB,zsC]
    refine tK 20 4 hH1 ?_
    try simp only[Act.put,zsA,zsB,zsC]
    refine wpAnyH_done (by kernel_rfl) ?_ _
    go_wp2_with fail
    go_ret
    exact⟨by rw[HRR.out];first|rfl|simp[*],HB.out.trans (hH1.2.mono HB.out.size)⟩
   ·have HRR:Hid (R=false):=Lib.hid (by rw[HR.out,decide_eq_false_iff_not];exact fun h=>d3 h.2.2)
    have e1:(b.id == la+1)=true:=by simpa using d1
    have e2:(a.off == b.off)=true:=by simpa using d2
    have e3:(a.ln == b.ln)=false:=by simpa using d3
    clear HR d1 d2 d3
    go_enter Tryz.func91,Tryz.ntmps91
    go_wp2_with fail
    refine wp_region_held_drew (S:=fun w'=>((w'.cell? ⟨w.heap.size,0,none⟩=some (.int .u64 a.id)∧w'.cell? ⟨w.heap.size,1,none⟩=some (.int .u64 a.off)∧w'.cell? ⟨w.heap.size,2,none⟩=some (.int .u32 a.ln)∧w'.cell? ⟨w.heap.size,3,none⟩=some (.int .u32 a.rn))∧(w'.cell? ⟨w.heap.size+1,0,none⟩=some (.int .u64 b.id)∧w'.cell? ⟨w.heap.size+1,1,none⟩=some (.int .u64 b.off)∧w'.cell? ⟨w.heap.size+1,2,none⟩=some (.int .u32 b.ln)∧w'.cell? ⟨w.heap.size+1,3,none⟩=some (.int .u32 b.rn)))∧Below W.heap.size W w') (by kernel_rfl) (HK.out _ (Below.drew (Below.refl _ _))) (fun hH0=>?_)
    refine tK 0 5 hH0 ?_
    try simp only[Act.put,zsA,zsB,zsC]
    refine tK 1 6 hH0 ?_
    try simp only[Act.put,zsA,zsB,zsC]
    refine tK 2 7 hH0 ?_
    try simp only[Act.put,zsA,zsB,zsC]
    refine wpAnyH_ready (rs:=[3]) (by kernel_rfl) (by simp) ?_
    refine AllReadyH.cons rfl (fun K hK=>?_) AllReadyH.nil
    go_simp
    refine(HL.out _).mono ?_
    rintro e w' ⟨rfl,hb⟩
    go_wp2_with fail
    refine hK.out _ _ (HK.out _ (hH0.2.trans (hb.mono hH0.2.size))) (fun hH1=>?_)
    clear hK K hb hH0
    try simp only[Act.put,zsA,zsB,zsC]
    refine tK 4 9 hH1 ?_
    try simp only[Act.put,zsA,zsB,zsC]
    refine tK 5 10 hH1 ?_
    try simp only[Act.put,zsA,zsB,zsC]
    refine tK 6 11 hH1 ?_
    try simp only[Act.put,zsA,zsB,zsC]
    refine tK 7 12 hH1 ?_
    try simp only[Act.put,zsA,zsB,zsC]
    refine tK 8 13 hH1 ?_
    try simp only[Act.put,zsA,zsB,zsC]
    refine tK 9 14 hH1 ?_
    try simp only[Act.put,zsA,zsB,zsC]
    refine tK 10 15 hH1 ?_
    try simp only[Act.put,zsA,zsB,zsC]
    refine tK 11 16 hH1 ?_
    try simp only[Act.put,zsA,zsB,zsC]
    refine tK 12 17 hH1 ?_
    try simp only[Act.put,zsA,zsB,zsC]
    refine tK 13 18 hH1 ?_
    try simp only[Act.put,zsA,zsB,zsC]
    refine tK 14 19 hH1 ?_
    try simp only[Act.put,zsA,zsB,zsC]
    refine tK 15 20 hH1 ?_
    try simp only[Act.put,zsA,zsB,zsC]
    refine tK 16 21 hH1 ?_
    try simp only[Act.put,zsA,zsB,zsC]
    refine tK 17 22 hH1 ?_
    try simp only[Act.put,zsA,zsB,zsC]
    refine tK 18 23 hH1 ?_
    try simp only[Act.put,zsA,zsB,zsC]
    refine tK 19 24 hH1 ?_
    try simp only[Act.put,zsA,zsB,zsC]
    refine tK 20 4 hH1 ?_
    try simp only[Act.put,zsA,zsB,zsC]
    refine wpAnyH_done (by kernel_rfl) ?_ _
    go_wp2_with fail
    go_ret
    exact⟨by rw[HRR.out];first|rfl|simp[*],HB.out.trans (hH1.2.mono HB.out.size)⟩
  ·have HRR:Hid (R=false):=Lib.hid (by rw[HR.out,decide_eq_false_iff_not];exact fun h=>d2 h.2.1)
   have e1:(b.id == la+1)=true:=by simpa using d1
   have e2:(a.off == b.off)=false:=by simpa using d2
   clear HR d1 d2
   go_enter Tryz.func91,Tryz.ntmps91
   go_wp2_with fail
   refine wp_region_held_drew (S:=fun w'=>((w'.cell? ⟨w.heap.size,0,none⟩=some (.int .u64 a.id)∧w'.cell? ⟨w.heap.size,1,none⟩=some (.int .u64 a.off)∧w'.cell? ⟨w.heap.size,2,none⟩=some (.int .u32 a.ln)∧w'.cell? ⟨w.heap.size,3,none⟩=some (.int .u32 a.rn))∧(w'.cell? ⟨w.heap.size+1,0,none⟩=some (.int .u64 b.id)∧w'.cell? ⟨w.heap.size+1,1,none⟩=some (.int .u64 b.off)∧w'.cell? ⟨w.heap.size+1,2,none⟩=some (.int .u32 b.ln)∧w'.cell? ⟨w.heap.size+1,3,none⟩=some (.int .u32 b.rn)))∧Below W.heap.size W w') (by kernel_rfl) (HK.out _ (Below.drew (Below.refl _ _))) (fun hH0=>?_)
   refine tK 0 5 hH0 ?_
   try simp only[Act.put,zsA,zsB,zsC]
   refine tK 1 6 hH0 ?_
   try simp only[Act.put,zsA,zsB,zsC]
   refine tK 2 7 hH0 ?_
   try simp only[Act.put,zsA,zsB,zsC]
   refine wpAnyH_ready (rs:=[3]) (by kernel_rfl) (by simp) ?_
   refine AllReadyH.cons rfl (fun K hK=>?_) AllReadyH.nil
   go_simp
   refine(HL.out _).mono ?_
   rintro e w' ⟨rfl,hb⟩
   go_wp2_with fail
   refine hK.out _ _ (HK.out _ (hH0.2.trans (hb.mono hH0.2.size))) (fun hH1=>?_)
   clear hK K hb hH0
   try simp only[Act.put,zsA,zsB,zsC]
   refine tK 4 9 hH1 ?_
   try simp only[Act.put,zsA,zsB,zsC]
   refine tK 5 10 hH1 ?_
   try simp only[Act.put,zsA,zsB,zsC]
   refine tK 6 11 hH1 ?_
   try simp only[Act.put,zsA,zsB,zsC]
   refine tK 7 12 hH1 ?_
   try simp only[Act.put,zsA,zsB,zsC]
   refine tK 8 13 hH1 ?_
   try simp only[Act.put,zsA,zsB,zsC]
   refine tK 9 14 hH1 ?_
   try simp only[Act.put,zsA,zsB,zsC]
   refine tK 10 15 hH1 ?_
   try simp only[Act.put,zsA,zsB,zsC]
   refine tK 11 16 hH1 ?_
   try simp only[Act.put,zsA,zsB,zsC]
   refine tK 12 17 hH1 ?_
   try simp only[Act.put,zsA,zsB,zsC]
   refine tK 13 18 hH1 ?_
   try simp only[Act.put,zsA,zsB,zsC]
   refine tU 14 19 hH1 ?_
   try simp only[Act.put,zsA,zsB,zsC]
   refine tU 15 20 hH1 ?_
   try simp only[Act.put,zsA,zsB,zsC]
   refine tU 16 21 hH1 ?_
   try simp only[Act.put,zsA,zsB,zsC]
   refine tU 17 22 hH1 ?_
   try simp only[Act.put,zsA,zsB,zsC]
   refine tU 18 23 hH1 ?_
   try simp only[Act.put,zsA,zsB,zsC]
   refine tK 19 24 hH1 ?_
   try simp only[Act.put,zsA,zsB,zsC]
   refine tK 20 4 hH1 ?_
   try simp only[Act.put,zsA,zsB,zsC]
   refine wpAnyH_done (by kernel_rfl) ?_ _
   go_wp2_with fail
   go_ret
   exact⟨by rw[HRR.out];first|rfl|simp[*],HB.out.trans (hH1.2.mono HB.out.size)⟩
 ·have HRR:Hid (R=false):=Lib.hid (by rw[HR.out,decide_eq_false_iff_not];exact fun h=>d1 h.1)
  have e1:(b.id == la+1)=false:=by simpa using d1
  clear HR d1
  go_enter Tryz.func91,Tryz.ntmps91
  go_wp2_with fail
  refine wp_region_held_drew (S:=fun w'=>((w'.cell? ⟨w.heap.size,0,none⟩=some (.int .u64 a.id)∧w'.cell? ⟨w.heap.size,1,none⟩=some (.int .u64 a.off)∧w'.cell? ⟨w.heap.size,2,none⟩=some (.int .u32 a.ln)∧w'.cell? ⟨w.heap.size,3,none⟩=some (.int .u32 a.rn))∧(w'.cell? ⟨w.heap.size+1,0,none⟩=some (.int .u64 b.id)∧w'.cell? ⟨w.heap.size+1,1,none⟩=some (.int .u64 b.off)∧w'.cell? ⟨w.heap.size+1,2,none⟩=some (.int .u32 b.ln)∧w'.cell? ⟨w.heap.size+1,3,none⟩=some (.int .u32 b.rn)))∧Below W.heap.size W w') (by kernel_rfl) (HK.out _ (Below.drew (Below.refl _ _))) (fun hH0=>?_)
  refine tK 0 5 hH0 ?_
  try simp only[Act.put,zsA,zsB,zsC]
  refine tK 1 6 hH0 ?_
  try simp only[Act.put,zsA,zsB,zsC]
  refine tK 2 7 hH0 ?_
  try simp only[Act.put,zsA,zsB,zsC]
  refine wpAnyH_ready (rs:=[3]) (by kernel_rfl) (by simp) ?_
  refine AllReadyH.cons rfl (fun K hK=>?_) AllReadyH.nil
  go_simp
  refine(HL.out _).mono ?_
  rintro e w' ⟨rfl,hb⟩
  go_wp2_with fail
  refine hK.out _ _ (HK.out _ (hH0.2.trans (hb.mono hH0.2.size))) (fun hH1=>?_)
  clear hK K hb hH0
  try simp only[Act.put,zsA,zsB,zsC]
  refine tK 4 9 hH1 ?_
  try simp only[Act.put,zsA,zsB,zsC]
  refine tK 5 10 hH1 ?_
  try simp only[Act.put,zsA,zsB,zsC]
  refine tK 6 11 hH1 ?_
  try simp only[Act.put,zsA,zsB,zsC]
  refine tU 7 12 hH1 ?_
  try simp only[Act.put,zsA,zsB,zsC]
  refine tU 8 13 hH1 ?_
  try simp only[Act.put,zsA,zsB,zsC]
  refine tU 9 14 hH1 ?_
  try simp only[Act.put,zsA,zsB,zsC]
  refine tU 10 15 hH1 ?_
  try simp only[Act.put,zsA,zsB,zsC]
  refine tU 11 16 hH1 ?_
  try simp only[Act.put,zsA,zsB,zsC]
  refine tK 12 17 hH1 ?_
  try simp only[Act.put,zsA,zsB,zsC]
  refine tK 13 18 hH1 ?_
  try simp only[Act.put,zsA,zsB,zsC]
  refine tU 14 19 hH1 ?_
  try simp only[Act.put,zsA,zsB,zsC]
  refine tU 15 20 hH1 ?_
  try simp only[Act.put,zsA,zsB,zsC]
  refine tU 16 21 hH1 ?_
  try simp only[Act.put,zsA,zsB,zsC]
  refine tU 17 22 hH1 ?_
  try simp only[Act.put,zsA,zsB,zsC]
  refine tU 18 23 hH1 ?_
  try simp only[Act.put,zsA,zsB,zsC]
  refine tK 19 24 hH1 ?_
  try simp only[Act.put,zsA,zsB,zsC]
  refine tK 20 4 hH1 ?_
  try simp only[Act.put,zsA,zsB,zsC]
  refine wpAnyH_done (by kernel_rfl) ?_ _
  go_wp2_with fail
  go_ret
  exact⟨by rw[HRR.out];first|rfl|simp[*],HB.out.trans (hH1.2.mono HB.out.size)⟩
end Go.Proofs.YtdnmgpcfgcidbaaGreatDoor
