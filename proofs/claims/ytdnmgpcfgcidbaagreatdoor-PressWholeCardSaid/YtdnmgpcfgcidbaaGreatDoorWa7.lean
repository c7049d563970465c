/- aMd aNe aVa aVc. -/
import Derived.Test.YtdnmgpcfgcidbaaGreatDoorWa6
import Derived.Test.YtdnmgpcfgcidbaaGreatDoorWs
namespace Go.Proofs.YtdnmgpcfgcidbaaGreatDoor
set_option linter.unusedVariables false
set_option linter.unusedSimpArgs false
set_option maxRecDepth 20000
def spotF (ts:List ByteArray) (s:ByteArray):Int × Int:=((offV (findF s ts 0):Int),(s.size:Int))
theorem spot_inj {ts:List ByteArray} {s t:ByteArray} (hs:s ∈ ts) (ht:t ∈ ts) (h:spotF ts s=spotF ts t):s=t:=by
 obtain ⟨k,hk⟩:=Option.isSome_iff_exists.1 ((findF_mem s ts 0).2 hs)
 obtain ⟨j,hj⟩:=Option.isSome_iff_exists.1 ((findF_mem t ts 0).2 ht)
 unfold spotF at h
 rw [hk,hj] at h
 injection h with h1 h2
 have e1:k=j:=by
  have h3:((k:Nat):Int)=((j:Nat):Int):=h1
  omega
 have e2:s.size=t.size:=by omega
 have a:=cat_found ts s 0 k hk
 have b:=cat_found ts t 0 j hj
 rw [e1,e2] at a
 exact a.symm.trans b
theorem con_whole {L:List It} (hg:GoodC L):conN (rowsS L).1=(rowsS L).2.length:=by
 have h:=rinv_all hg
 have hn:((rowsS L).2.map (spotF (rowsS L).2)).Nodup:=by
  refine List.pairwise_iff_getElem.2 (fun i j hi hj hij=>?_)
  rw [List.length_map] at hi hj
  rw [List.getElem_map,List.getElem_map]
  intro e
  have:=spot_inj (List.getElem_mem hi) (List.getElem_mem hj) e
  exact (List.pairwise_iff_getElem.1 h.good.once i j hi hj hij) this
 unfold conN
 rw [unl_eq (b:=(rowsS L).2.map (spotF (rowsS L).2)) (fun q=>?_),unl_nodup hn,List.length_map]
 rw [mem_pairN,List.mem_map]
 constructor
 ·rintro ⟨e,he,_,_,h1,h2⟩
  obtain ⟨s,f1,f2⟩:=(h.ok e he).txt
  have hm:=(h.ok e he).may
  unfold MayN at hm
  refine ⟨s,(findF_mem s _ 0).1 (by rw [f1];rfl),?_⟩
  unfold spotF
  rw [f1]
  refine Prod.ext ?_ ?_
  ·show ((offV (some e.off.toNat):Nat):Int)=q.1
   show ((e.off.toNat:Nat):Int)=q.1
   omega
  ·show (s.size:Int)=q.2
   omega
 ·rintro ⟨s,hs,rfl⟩
  obtain ⟨e,he,f1,f2⟩:=entry_of hg s hs
  have hm:=(h.ok e he).may
  unfold MayN at hm
  refine ⟨e,he,(h.ok e he).ck,by have:=(h.ok e he).run;omega,?_,f2⟩
  show e.off=((offV (findF s (rowsS L).2 0):Nat):Int)
  rw [f1]
  show e.off=((e.off.toNat:Nat):Int)
  omega
theorem exp_good {l:List En} {d:ByteArray} (hm:∀ e ∈ l,MayN e) (hr:rowG (-1) l=0) (ht:∀ e ∈ l,TellE e d) (hs:(l.map (·.rn)).sum≤2048):GoodC (expN l d):=by
 have hc:∀ e ∈ l,ckN e=0:=fun e he=>(rowG_above (-1) l hm hr e he).2
 have hlen:=exp_len l d (fun e he=>(hm e he).2.2.2.1)
 have hmem:∀ t ∈ expN l d,∃ e ∈ l,∃ k,k<e.rn.toNat∧t=(e.id.toNat+k,txN e d):=fun t h=>by
  obtain ⟨e,he,hte⟩:=List.mem_flatMap.1 h
  exact ⟨e,he,(mem_runN e d t).1 hte⟩
 have hsz:∀ e ∈ l,(txN e d).size=e.ln.toNat:=fun e he=>by
  have h1:=ht e he
  have h2:=hm e he
  unfold MayN at h2
  have h3:=h1.inn
  unfold txN
  rw [ByteArray.size_extract]
  omega
 refine ⟨?_,fun t h=>?_,fun t h=>?_,fun t h=>?_,by omega⟩
 ·have key:∀ (l:List En) (p:Int),(∀ e ∈ l,MayN e)→rowG p l=0→Rise (expN l d)∧∀ t ∈ expN l d,p<(t.1:Int):=by
   intro l
   induction l with
   | nil=>intro p _ _;exact ⟨List.Pairwise.nil,by simp [expN]⟩
   | cons e l ih =>
    intro p hm hr
    obtain ⟨g1,g2,g3⟩:=rowG_cons p e l hr
    obtain ⟨i1,i2⟩:=ih (laN e) (fun x hx=>hm x (by simp [hx])) g3
    have hme:=hm e (by simp)
    have hla:=la_ge e hme g1
    unfold MayN at hme
    have hup:∀ t ∈ runN e d,e.id≤(t.1:Int)∧(t.1:Int)≤laN e:=fun t h=>by
     obtain ⟨k,hk,rfl⟩:=(mem_runN e d t).1 h
     rw [la_ok g1 (by omega)]
     refine ⟨?_,?_⟩
     ·show e.id≤((e.id.toNat+k:Nat):Int);omega
     ·show ((e.id.toNat+k:Nat):Int)≤_;omega
    have e0:expN (e :: l) d=runN e d++expN l d:=by simp [expN]
    rw [e0]
    refine ⟨?_,fun t h=>?_⟩
    ·unfold Rise at i1 ⊢
     rw [List.pairwise_append]
     refine ⟨?_,i1,fun a ha b hb=>?_⟩
     ·unfold runN
      rw [List.pairwise_map]
      refine List.Pairwise.imp (fun {a b} h=>?_) List.pairwise_lt_range
      show e.id.toNat+a<e.id.toNat+b
      omega
     ·have:=hup a ha
      have:=i2 b hb
      omega
    ·rcases List.mem_append.1 h with h|h
     ·have:=hup t h;omega
     ·have:=i2 t h;omega
  exact (key l (-1) hm hr).1
 ·obtain ⟨e,he,k,hk,rfl⟩:=hmem t h
  have h1:=ck_ok e (hc e he)
  have h2:=hm e he
  unfold MayN at h2
  have h3:=(ht e he).run
  unfold wdN at h1
  rw [if_neg h3] at h1
  show e.id.toNat+k<_
  omega
 ·obtain ⟨e,he,k,hk,rfl⟩:=hmem t h
  have h1:=(ck_ok e (hc e he)).1
  have h2:=hm e he
  unfold MayN at h2
  show 0<(txN e d).size
  rw [hsz e he]
  omega
 ·obtain ⟨e,he,k,hk,rfl⟩:=hmem t h
  have h2:=(ht e he).short
  show (txN e d).size≤_
  rw [hsz e he]
  omega
end Go.Proofs.YtdnmgpcfgcidbaaGreatDoor
namespace Go.Proofs.YtdnmgpcfgcidbaaGreatDoor
set_option linter.unusedVariables false
set_option linter.unusedSimpArgs false
open Go.RowKit
set_option maxRecDepth 20000
theorem backG_step (l:List En) (i:Nat) (e:En) (d:ByteArray) (acc:List It) (m:Int) (h:l[i]?=some e):backG (l.drop i) d acc m=if e.rn=0 then ([],14) else if (d.size:Int)<e.off+e.ln then ([],8) else if 2048<m+e.rn then ([],21) else if 65536<e.ln then ([],5) else backG (l.drop (i+1)) d (acc++runN e d) (m+e.rn):=by
 rw [idrop_at l i e h,backG]
theorem run_at (e:En) (d:ByteArray) (j:Nat) (h:(j:Int)<e.rn):(runN e d)[j]?=some (e.id.toNat+j,txN e d):=by
 unfold runN
 rw [List.getElem?_map,List.getElem?_range (by omega)]
 rfl
theorem it_lit2 (w:World) (z:Int) (n:Nat) (hz:z=n) (s:ByteArray) (T:TypeId):ItsAt (w.alloc (.cells #[.int .u64 z,.string s] T)) (.slice (some ⟨w.heap.size,0,none⟩) 1 1) [(n,s)]:=by
 subst hz
 exact it_lit w n s T
theorem mptr_any (e:En) (w:World):Calls Tryz.prog 123 #[.agg (eC e)] w fun x w'=>x=.returned (.bool (decide (e.rn=0)))∧Below w.heap.size w w':=by
 obtain ⟨i,o,l,r⟩:=e
 unfold eC
 dsimp only
 have hd:(r == 0)=decide (r=0):=by rw [Bool.eq_iff_iff];simp
 go_enter Tryz.func123,Tryz.ntmps123
 go_wp2_with fail
 go_ret
 exact ⟨ret_b (by first|exact hd|rfl|simp),by go_grown⟩
def chkN (e:En) (n d:Nat):Int:=if e.rn=0 then 14 else if (d:Int)<e.off+e.ln then 8 else if 2048<(n:Int)+e.rn then 21 else if 65536<e.ln then 5 else 0
set_option maxHeartbeats 1000000 in
theorem mcheck_any (e:En) (n:Nat) (d:ByteArray) (w:World) (hm:MayN e) (hc:e.off+e.ln≤9223372036854775807) (hn:n≤1000000) (hd:d.size≤1000000000) :
  Calls Tryz.prog 56 #[.agg (eC e),.int .i64 n,.string d] w fun x w'=>x=.returned (.int .i64 (chkN e n d.size))∧Below w.heap.size w w':=by
 have HP:=Lib.hid (fun W=>mptr_any e W)
 have H0:=EAt.made w e 124
 have HB:Below w.heap.size w (w.alloc (.cells (eC e) 124)):=(Below.refl _ _).alloc (Nat.le_refl _) _
 obtain ⟨m0,m1,m2,m3⟩:=hm
 unfold eC at HB HP ⊢
 obtain ⟨c0,c1,c2,c3⟩:=H0
 unfold eC at c0 c1 c2 c3
 have hw1:IntKind.u64.wrap e.rn=e.rn:=by rw [IntKind.wrap_u64];omega
 have hw2:IntKind.u64.wrap ((n:Int)+e.rn)=(n:Int)+e.rn:=by rw [IntKind.wrap_u64];omega
 have hw3:IntKind.u64.wrap e.ln=e.ln:=by rw [IntKind.wrap_u64];omega
 have hw4:IntKind.u64.wrap (e.off+e.ln)=e.off+e.ln:=by rw [IntKind.wrap_u64];omega
 have hw5:IntKind.u64.wrap (d.size:Int)=(d.size:Int):=by rw [IntKind.wrap_u64];omega
 have hw6:IntKind.u64.wrap (n:Int)=(n:Int):=by rw [IntKind.wrap_u64];omega
 have HR:Hid (chkN e n d.size=if e.rn=0 then 14 else if (d.size:Int)<e.off+e.ln then 8 else if 2048<(n:Int)+e.rn then 21 else if 65536<e.ln then 5 else 0):=Lib.hid rfl
 generalize chkN e n d.size=R at *
 by_cases h1:e.rn=0
 ·have HRR:=Lib.hid (HR.out.trans (if_pos h1))
  have hd1:decide (e.rn=0)=true:=by simpa using h1
  rw [hd1] at HP
  clear h1 hd1 HR
  go_enter Tryz.func56,Tryz.ntmps56
  go_wp2_with fail
  refine (HP.out _).mono ?_
  rintro x w1 ⟨rfl,hb⟩
  have HU:=Lib.hid (keepE hb ⟨⟨c0,c1,c2,c3⟩,HB⟩).2
  clear hb c0 c1 c2 c3 HB
  go_wp2_with fail
  go_ret
  exact ⟨by rw [HRR.out];rfl,HU.out⟩
 have hd1:decide (e.rn=0)=false:=by simpa using h1
 rw [hd1] at HP
 have HR2:=Lib.hid (HR.out.trans (if_neg h1))
 clear HR hd1
 by_cases h2:(d.size:Int)<e.off+e.ln
 ·have HRR:=Lib.hid (HR2.out.trans (if_pos h2))
  clear HR2 h1
  go_enter Tryz.func56,Tryz.ntmps56
  go_wp2_with fail
  refine (HP.out _).mono ?_
  rintro x w1 ⟨rfl,hb⟩
  obtain ⟨⟨k0,k1,k2,k3⟩,hU⟩:=keepE hb ⟨⟨c0,c1,c2,c3⟩,HB⟩
  have HU:=Lib.hid hU
  clear hb c0 c1 c2 c3 HB hU
  go_wp2_with fail
  go_ret
  exact ⟨by rw [HRR.out];rfl,HU.out⟩
 have HR3:=Lib.hid (HR2.out.trans (if_neg h2))
 clear HR2
 by_cases h3:2048<(n:Int)+e.rn
 ·have HRR:=Lib.hid (HR3.out.trans (if_pos h3))
  clear HR3 h1
  go_enter Tryz.func56,Tryz.ntmps56
  go_wp2_with fail
  refine (HP.out _).mono ?_
  rintro x w1 ⟨rfl,hb⟩
  obtain ⟨⟨k0,k1,k2,k3⟩,hU⟩:=keepE hb ⟨⟨c0,c1,c2,c3⟩,HB⟩
  have HU:=Lib.hid hU
  clear hb c0 c1 c2 c3 HB hU
  go_wp2_with fail
  go_ret
  exact ⟨by rw [HRR.out];rfl,HU.out⟩
 have HR4:=Lib.hid (HR3.out.trans (if_neg h3))
 clear HR3
 by_cases h4:65536<e.ln
 ·have HRR:=Lib.hid (HR4.out.trans (if_pos h4))
  clear HR4 h1
  go_enter Tryz.func56,Tryz.ntmps56
  go_wp2_with fail
  refine (HP.out _).mono ?_
  rintro x w1 ⟨rfl,hb⟩
  obtain ⟨⟨k0,k1,k2,k3⟩,hU⟩:=keepE hb ⟨⟨c0,c1,c2,c3⟩,HB⟩
  have HU:=Lib.hid hU
  clear hb c0 c1 c2 c3 HB hU
  go_wp2_with fail
  go_ret
  exact ⟨by rw [HRR.out];rfl,HU.out⟩
 have HRR:=Lib.hid (HR4.out.trans (if_neg h4))
 clear HR4 h1
 go_enter Tryz.func56,Tryz.ntmps56
 go_wp2_with fail
 refine (HP.out _).mono ?_
 rintro x w1 ⟨rfl,hb⟩
 obtain ⟨⟨k0,k1,k2,k3⟩,hU⟩:=keepE hb ⟨⟨c0,c1,c2,c3⟩,HB⟩
 have HU:=Lib.hid hU
 clear hb c0 c1 c2 c3 HB hU
 go_wp2_with fail
 go_ret
 exact ⟨by rw [HRR.out];rfl,HU.out⟩
set_option maxHeartbeats 2000000 in
theorem goes_any (e a:En) (w:World) (he:MayN e) (ha:MayN a):Calls Tryz.prog 72 #[.agg (eC e),.agg (eC a)] w fun x w'=>x=.returned (.bool (oneE a e))∧Below w.heap.size w w':=by
 have HL:=Lib.hid (fun W=>plast_any a W ha)
 have hla:0≤laN a∧laN a≤6004799503160660:=by
  by_cases h:ckN a=0
  ·have:=la_ge a ha h
   unfold MayN at ha
   omega
  ·unfold laN
   rw [if_neg h]
   omega
 have HR:Hid (oneE a e=decide (e.id=laN a+1∧a.off=e.off∧a.ln=e.ln)):=Lib.hid rfl
 generalize oneE a e=R at *
 generalize laN a=la at *
 have hw:IntKind.u64.wrap (la+1)=la+1:=by rw [IntKind.wrap_u64];omega
 have hea:=EAt.made w e 153
 have heb:=EAt.made (w.alloc (.cells (eC e) 153)) a 153
 have hea2:=hea.later (w':=(w.alloc (.cells (eC e) 153)).alloc (.cells (eC a) 153)) ((Below.refl _ _).alloc (Nat.le_refl _) _)
 have hbw:Below w.heap.size w ((w.alloc (.cells (eC e) 153)).alloc (.cells (eC a) 153)):=((Below.refl _ _).alloc (Nat.le_refl _) _).alloc (by simp) _
 simp only [World.size_alloc] at heb
 unfold eC at HL hea2 heb hbw ⊢
 obtain ⟨W,hW⟩:∃ W,(w.alloc (.cells #[.int .u64 e.id,.int .u64 e.off,.int .u32 e.ln,.int .u32 e.rn] 153)).alloc (.cells #[.int .u64 a.id,.int .u64 a.off,.int .u32 a.ln,.int .u32 a.rn] 153)=W:=⟨_,rfl⟩
 rw [hW] at hea2 heb hbw
 have HK:Hid (∀ w',Below W.heap.size W w'→((w'.cell? ⟨w.heap.size,0,none⟩=some (.int .u64 e.id)∧w'.cell? ⟨w.heap.size,1,none⟩=some (.int .u64 e.off)∧w'.cell? ⟨w.heap.size,2,none⟩=some (.int .u32 e.ln)∧w'.cell? ⟨w.heap.size,3,none⟩=some (.int .u32 e.rn))∧(w'.cell? ⟨w.heap.size+1,0,none⟩=some (.int .u64 a.id)∧w'.cell? ⟨w.heap.size+1,1,none⟩=some (.int .u64 a.off)∧w'.cell? ⟨w.heap.size+1,2,none⟩=some (.int .u32 a.ln)∧w'.cell? ⟨w.heap.size+1,3,none⟩=some (.int .u32 a.rn)))∧Below W.heap.size W w'):=Lib.hid (fun w' h=>⟨⟨hea2.later h,heb.later h⟩,h⟩)
 have HB:=Lib.hid hbw
 clear hea hea2 heb hbw he ha hla
 by_cases d1:e.id=la+1
 ·by_cases d2:e.off=a.off
  ·by_cases d3:e.ln=a.ln
   ·have HRR:Hid (R=true):=Lib.hid (by rw [HR.out,decide_eq_true_iff];exact ⟨d1,d2.symm,d3.symm⟩)
    have e1:(e.id == la+1)=true:=by simpa using d1
    have e2:(e.off == a.off)=true:=by simpa using d2
    have e3:(e.ln == a.ln)=true:=by simpa using d3
    clear HR d1 d2 d3
    go_enter Tryz.func72,Tryz.ntmps72
    go_wp2_with fail
    refine wp_region_held_drew (S:=fun w'=>((w'.cell? ⟨w.heap.size,0,none⟩=some (.int .u64 e.id)∧w'.cell? ⟨w.heap.size,1,none⟩=some (.int .u64 e.off)∧w'.cell? ⟨w.heap.size,2,none⟩=some (.int .u32 e.ln)∧w'.cell? ⟨w.heap.size,3,none⟩=some (.int .u32 e.rn))∧(w'.cell? ⟨w.heap.size+1,0,none⟩=some (.int .u64 a.id)∧w'.cell? ⟨w.heap.size+1,1,none⟩=some (.int .u64 a.off)∧w'.cell? ⟨w.heap.size+1,2,none⟩=some (.int .u32 a.ln)∧w'.cell? ⟨w.heap.size+1,3,none⟩=some (.int .u32 a.rn)))∧Below W.heap.size W w') (by kernel_rfl) (HK.out _ (Below.drew (Below.refl _ _))) (fun hH0=>?_)
    refine takeH (i:=0) (d:=5) (v:=?_) rfl rfl (Or.inl ⟨by rfl,?y0⟩) hH0 ?_
    case y0=>intro w hSw;go_simp;try with_reducible rfl
    try simp only [Act.put,zsA,zsB,zsC]
    refine takeH (i:=1) (d:=6) (v:=?_) rfl rfl (Or.inl ⟨by rfl,?y1⟩) hH0 ?_
    case y1=>intro w hSw;go_simp;try with_reducible rfl
    try simp only [Act.put,zsA,zsB,zsC]
    refine takeH (i:=2) (d:=7) (v:=?_) rfl rfl (Or.inl ⟨by rfl,?y2⟩) hH0 ?_
    case y2=>intro w hSw;go_simp;try with_reducible rfl
    try simp only [Act.put,zsA,zsB,zsC]
    refine wpAnyH_ready (rs:=[3]) (by kernel_rfl) (by simp) ?_
    refine AllReadyH.cons rfl (fun K hK=>?_) AllReadyH.nil
    go_simp
    refine (HL.out _).mono ?_
    rintro e w' ⟨rfl,hb⟩
    go_wp2_with fail
    refine hK.out _ _ (HK.out _ (hH0.2.trans (hb.mono hH0.2.size))) (fun hH1=>?_)
    clear hK K hb hH0
    try simp only [Act.put,zsA,zsB,zsC]
    refine takeH (i:=4) (d:=9) (v:=?_) rfl rfl (Or.inl ⟨by rfl,?y4⟩) hH1 ?_
    case y4=>intro w hSw;go_simp;try with_reducible rfl
    try simp only [Act.put,zsA,zsB,zsC]
    refine takeH (i:=5) (d:=10) (v:=?_) rfl rfl (Or.inl ⟨by rfl,?y5⟩) hH1 ?_
    case y5=>intro w hSw;go_simp;try with_reducible rfl
    try simp only [Act.put,zsA,zsB,zsC]
    refine takeH (i:=6) (d:=11) (v:=?_) rfl rfl (Or.inl ⟨by rfl,?y6⟩) hH1 ?_
    case y6=>intro w hSw;go_simp;try with_reducible rfl
    try simp only [Act.put,zsA,zsB,zsC]
    refine takeH (i:=7) (d:=12) (v:=?_) rfl rfl (Or.inl ⟨by rfl,?y7⟩) hH1 ?_
    case y7=>intro w hSw;go_simp;try with_reducible rfl
    try simp only [Act.put,zsA,zsB,zsC]
    refine takeH (i:=8) (d:=13) (v:=?_) rfl rfl (Or.inl ⟨by rfl,?y8⟩) hH1 ?_
    case y8=>intro w hSw;go_simp;try with_reducible rfl
    try simp only [Act.put,zsA,zsB,zsC]
    refine takeH (i:=9) (d:=14) (v:=?_) rfl rfl (Or.inl ⟨by rfl,?y9⟩) hH1 ?_
    case y9=>intro w hSw;go_simp;try with_reducible rfl
    try simp only [Act.put,zsA,zsB,zsC]
    refine takeH (i:=10) (d:=15) (v:=?_) rfl rfl (Or.inl ⟨by rfl,?y10⟩) hH1 ?_
    case y10=>intro w hSw;go_simp;try with_reducible rfl
    try simp only [Act.put,zsA,zsB,zsC]
    refine takeH (i:=11) (d:=16) (v:=?_) rfl rfl (Or.inl ⟨by rfl,?y11⟩) hH1 ?_
    case y11=>intro w hSw;go_simp;try with_reducible rfl
    try simp only [Act.put,zsA,zsB,zsC]
    refine takeH (i:=12) (d:=17) (v:=?_) rfl rfl (Or.inl ⟨by rfl,?y12⟩) hH1 ?_
    case y12=>intro w hSw;go_simp;try with_reducible rfl
    try simp only [Act.put,zsA,zsB,zsC]
    refine takeH (i:=13) (d:=18) (v:=?_) rfl rfl (Or.inl ⟨by rfl,?y13⟩) hH1 ?_
    case y13=>intro w hSw;go_simp;try with_reducible rfl
    try simp only [Act.put,zsA,zsB,zsC]
    refine takeH (i:=14) (d:=19) (v:=?_) rfl rfl (Or.inl ⟨by rfl,?y14⟩) hH1 ?_
    case y14=>intro w hSw;go_simp;try with_reducible rfl
    try simp only [Act.put,zsA,zsB,zsC]
    refine takeH (i:=15) (d:=20) (v:=?_) rfl rfl (Or.inl ⟨by rfl,?y15⟩) hH1 ?_
    case y15=>intro w hSw;go_simp;try with_reducible rfl
    try simp only [Act.put,zsA,zsB,zsC]
    refine takeH (i:=16) (d:=21) (v:=?_) rfl rfl (Or.inl ⟨by rfl,?y16⟩) hH1 ?_
    case y16=>intro w hSw;go_simp;try with_reducible rfl
    try simp only [Act.put,zsA,zsB,zsC]
    refine takeH (i:=17) (d:=22) (v:=?_) rfl rfl (Or.inl ⟨by rfl,?y17⟩) hH1 ?_
    case y17=>intro w hSw;go_simp;try with_reducible rfl
    try simp only [Act.put,zsA,zsB,zsC]
    refine takeH (i:=18) (d:=23) (v:=?_) rfl rfl (Or.inl ⟨by rfl,?y18⟩) hH1 ?_
    case y18=>intro w hSw;go_simp;try with_reducible rfl
    try simp only [Act.put,zsA,zsB,zsC]
    refine takeH (i:=19) (d:=24) (v:=?_) rfl rfl (Or.inl ⟨by rfl,?y19⟩) hH1 ?_
    case y19=>intro w hSw;go_simp;try with_reducible rfl
    try simp only [Act.put,zsA,zsB,zsC]
    refine takeH (i:=20) (d:=4) (v:=?_) rfl rfl (Or.inl ⟨by rfl,?y20⟩) hH1 ?_
    case y20=>intro w hSw;go_simp;try with_reducible rfl
    try simp only [Act.put,zsA,zsB,zsC]
    refine wpAnyH_done (by kernel_rfl) ?_ _
    go_wp2_with fail
    go_ret
    exact ⟨by rw [HRR.out];first|rfl|simp [*],HB.out.trans (hH1.2.mono HB.out.size)⟩
   ·have HRR:Hid (R=false):=Lib.hid (by rw [HR.out,decide_eq_false_iff_not];exact fun h=>d3 h.2.2.symm)
    have e1:(e.id == la+1)=true:=by simpa using d1
    have e2:(e.off == a.off)=true:=by simpa using d2
    have e3:(e.ln == a.ln)=false:=by simpa using d3
    clear HR d1 d2 d3
    go_enter Tryz.func72,Tryz.ntmps72
    go_wp2_with fail
    refine wp_region_held_drew (S:=fun w'=>((w'.cell? ⟨w.heap.size,0,none⟩=some (.int .u64 e.id)∧w'.cell? ⟨w.heap.size,1,none⟩=some (.int .u64 e.off)∧w'.cell? ⟨w.heap.size,2,none⟩=some (.int .u32 e.ln)∧w'.cell? ⟨w.heap.size,3,none⟩=some (.int .u32 e.rn))∧(w'.cell? ⟨w.heap.size+1,0,none⟩=some (.int .u64 a.id)∧w'.cell? ⟨w.heap.size+1,1,none⟩=some (.int .u64 a.off)∧w'.cell? ⟨w.heap.size+1,2,none⟩=some (.int .u32 a.ln)∧w'.cell? ⟨w.heap.size+1,3,none⟩=some (.int .u32 a.rn)))∧Below W.heap.size W w') (by kernel_rfl) (HK.out _ (Below.drew (Below.refl _ _))) (fun hH0=>?_)
    refine takeH (i:=0) (d:=5) (v:=?_) rfl rfl (Or.inl ⟨by rfl,?y0⟩) hH0 ?_
    case y0=>intro w hSw;go_simp;try with_reducible rfl
    try simp only [Act.put,zsA,zsB,zsC]
    refine takeH (i:=1) (d:=6) (v:=?_) rfl rfl (Or.inl ⟨by rfl,?y1⟩) hH0 ?_
    case y1=>intro w hSw;go_simp;try with_reducible rfl
    try simp only [Act.put,zsA,zsB,zsC]
    refine takeH (i:=2) (d:=7) (v:=?_) rfl rfl (Or.inl ⟨by rfl,?y2⟩) hH0 ?_
    case y2=>intro w hSw;go_simp;try with_reducible rfl
    try simp only [Act.put,zsA,zsB,zsC]
    refine wpAnyH_ready (rs:=[3]) (by kernel_rfl) (by simp) ?_
    refine AllReadyH.cons rfl (fun K hK=>?_) AllReadyH.nil
    go_simp
    refine (HL.out _).mono ?_
    rintro e w' ⟨rfl,hb⟩
    go_wp2_with fail
    refine hK.out _ _ (HK.out _ (hH0.2.trans (hb.mono hH0.2.size))) (fun hH1=>?_)
    clear hK K hb hH0
    try simp only [Act.put,zsA,zsB,zsC]
    refine takeH (i:=4) (d:=9) (v:=?_) rfl rfl (Or.inl ⟨by rfl,?y4⟩) hH1 ?_
    case y4=>intro w hSw;go_simp;try with_reducible rfl
    try simp only [Act.put,zsA,zsB,zsC]
    refine takeH (i:=5) (d:=10) (v:=?_) rfl rfl (Or.inl ⟨by rfl,?y5⟩) hH1 ?_
    case y5=>intro w hSw;go_simp;try with_reducible rfl
    try simp only [Act.put,zsA,zsB,zsC]
    refine takeH (i:=6) (d:=11) (v:=?_) rfl rfl (Or.inl ⟨by rfl,?y6⟩) hH1 ?_
    case y6=>intro w hSw;go_simp;try with_reducible rfl
    try simp only [Act.put,zsA,zsB,zsC]
    refine takeH (i:=7) (d:=12) (v:=?_) rfl rfl (Or.inl ⟨by rfl,?y7⟩) hH1 ?_
    case y7=>intro w hSw;go_simp;try with_reducible rfl
    try simp only [Act.put,zsA,zsB,zsC]
    refine takeH (i:=8) (d:=13) (v:=?_) rfl rfl (Or.inl ⟨by rfl,?y8⟩) hH1 ?_
    case y8=>intro w hSw;go_simp;try with_reducible rfl
    try simp only [Act.put,zsA,zsB,zsC]
    refine takeH (i:=9) (d:=14) (v:=?_) rfl rfl (Or.inl ⟨by rfl,?y9⟩) hH1 ?_
    case y9=>intro w hSw;go_simp;try with_reducible rfl
    try simp only [Act.put,zsA,zsB,zsC]
    refine takeH (i:=10) (d:=15) (v:=?_) rfl rfl (Or.inl ⟨by rfl,?y10⟩) hH1 ?_
    case y10=>intro w hSw;go_simp;try with_reducible rfl
    try simp only [Act.put,zsA,zsB,zsC]
    refine takeH (i:=11) (d:=16) (v:=?_) rfl rfl (Or.inl ⟨by rfl,?y11⟩) hH1 ?_
    case y11=>intro w hSw;go_simp;try with_reducible rfl
    try simp only [Act.put,zsA,zsB,zsC]
    refine takeH (i:=12) (d:=17) (v:=?_) rfl rfl (Or.inl ⟨by rfl,?y12⟩) hH1 ?_
    case y12=>intro w hSw;go_simp;try with_reducible rfl
    try simp only [Act.put,zsA,zsB,zsC]
    refine takeH (i:=13) (d:=18) (v:=?_) rfl rfl (Or.inl ⟨by rfl,?y13⟩) hH1 ?_
    case y13=>intro w hSw;go_simp;try with_reducible rfl
    try simp only [Act.put,zsA,zsB,zsC]
    refine takeH (i:=14) (d:=19) (v:=?_) rfl rfl (Or.inl ⟨by rfl,?y14⟩) hH1 ?_
    case y14=>intro w hSw;go_simp;try with_reducible rfl
    try simp only [Act.put,zsA,zsB,zsC]
    refine takeH (i:=15) (d:=20) (v:=?_) rfl rfl (Or.inl ⟨by rfl,?y15⟩) hH1 ?_
    case y15=>intro w hSw;go_simp;try with_reducible rfl
    try simp only [Act.put,zsA,zsB,zsC]
    refine takeH (i:=16) (d:=21) (v:=?_) rfl rfl (Or.inl ⟨by rfl,?y16⟩) hH1 ?_
    case y16=>intro w hSw;go_simp;try with_reducible rfl
    try simp only [Act.put,zsA,zsB,zsC]
    refine takeH (i:=17) (d:=22) (v:=?_) rfl rfl (Or.inl ⟨by rfl,?y17⟩) hH1 ?_
    case y17=>intro w hSw;go_simp;try with_reducible rfl
    try simp only [Act.put,zsA,zsB,zsC]
    refine takeH (i:=18) (d:=23) (v:=?_) rfl rfl (Or.inl ⟨by rfl,?y18⟩) hH1 ?_
    case y18=>intro w hSw;go_simp;try with_reducible rfl
    try simp only [Act.put,zsA,zsB,zsC]
    refine takeH (i:=19) (d:=24) (v:=?_) rfl rfl (Or.inl ⟨by rfl,?y19⟩) hH1 ?_
    case y19=>intro w hSw;go_simp;try with_reducible rfl
    try simp only [Act.put,zsA,zsB,zsC]
    refine takeH (i:=20) (d:=4) (v:=?_) rfl rfl (Or.inl ⟨by rfl,?y20⟩) hH1 ?_
    case y20=>intro w hSw;go_simp;try with_reducible rfl
    try simp only [Act.put,zsA,zsB,zsC]
    refine wpAnyH_done (by kernel_rfl) ?_ _
    go_wp2_with fail
    go_ret
    exact ⟨by rw [HRR.out];first|rfl|simp [*],HB.out.trans (hH1.2.mono HB.out.size)⟩
  ·have HRR:Hid (R=false):=Lib.hid (by rw [HR.out,decide_eq_false_iff_not];exact fun h=>d2 h.2.1.symm)
   have e1:(e.id == la+1)=true:=by simpa using d1
   have e2:(e.off == a.off)=false:=by simpa using d2
   clear HR d1 d2
   go_enter Tryz.func72,Tryz.ntmps72
   go_wp2_with fail
   refine wp_region_held_drew (S:=fun w'=>((w'.cell? ⟨w.heap.size,0,none⟩=some (.int .u64 e.id)∧w'.cell? ⟨w.heap.size,1,none⟩=some (.int .u64 e.off)∧w'.cell? ⟨w.heap.size,2,none⟩=some (.int .u32 e.ln)∧w'.cell? ⟨w.heap.size,3,none⟩=some (.int .u32 e.rn))∧(w'.cell? ⟨w.heap.size+1,0,none⟩=some (.int .u64 a.id)∧w'.cell? ⟨w.heap.size+1,1,none⟩=some (.int .u64 a.off)∧w'.cell? ⟨w.heap.size+1,2,none⟩=some (.int .u32 a.ln)∧w'.cell? ⟨w.heap.size+1,3,none⟩=some (.int .u32 a.rn)))∧Below W.heap.size W w') (by kernel_rfl) (HK.out _ (Below.drew (Below.refl _ _))) (fun hH0=>?_)
   refine takeH (i:=0) (d:=5) (v:=?_) rfl rfl (Or.inl ⟨by rfl,?y0⟩) hH0 ?_
   case y0=>intro w hSw;go_simp;try with_reducible rfl
   try simp only [Act.put,zsA,zsB,zsC]
   refine takeH (i:=1) (d:=6) (v:=?_) rfl rfl (Or.inl ⟨by rfl,?y1⟩) hH0 ?_
   case y1=>intro w hSw;go_simp;try with_reducible rfl
   try simp only [Act.put,zsA,zsB,zsC]
   refine takeH (i:=2) (d:=7) (v:=?_) rfl rfl (Or.inl ⟨by rfl,?y2⟩) hH0 ?_
   case y2=>intro w hSw;go_simp;try with_reducible rfl
   try simp only [Act.put,zsA,zsB,zsC]
   refine wpAnyH_ready (rs:=[3]) (by kernel_rfl) (by simp) ?_
   refine AllReadyH.cons rfl (fun K hK=>?_) AllReadyH.nil
   go_simp
   refine (HL.out _).mono ?_
   rintro e w' ⟨rfl,hb⟩
   go_wp2_with fail
   refine hK.out _ _ (HK.out _ (hH0.2.trans (hb.mono hH0.2.size))) (fun hH1=>?_)
   clear hK K hb hH0
   try simp only [Act.put,zsA,zsB,zsC]
   refine takeH (i:=4) (d:=9) (v:=?_) rfl rfl (Or.inl ⟨by rfl,?y4⟩) hH1 ?_
   case y4=>intro w hSw;go_simp;try with_reducible rfl
   try simp only [Act.put,zsA,zsB,zsC]
   refine takeH (i:=5) (d:=10) (v:=?_) rfl rfl (Or.inl ⟨by rfl,?y5⟩) hH1 ?_
   case y5=>intro w hSw;go_simp;try with_reducible rfl
   try simp only [Act.put,zsA,zsB,zsC]
   refine takeH (i:=6) (d:=11) (v:=?_) rfl rfl (Or.inl ⟨by rfl,?y6⟩) hH1 ?_
   case y6=>intro w hSw;go_simp;try with_reducible rfl
   try simp only [Act.put,zsA,zsB,zsC]
   refine takeH (i:=7) (d:=12) (v:=?_) rfl rfl (Or.inl ⟨by rfl,?y7⟩) hH1 ?_
   case y7=>intro w hSw;go_simp;try with_reducible rfl
   try simp only [Act.put,zsA,zsB,zsC]
   refine takeH (i:=8) (d:=13) (v:=?_) rfl rfl (Or.inl ⟨by rfl,?y8⟩) hH1 ?_
   case y8=>intro w hSw;go_simp;try with_reducible rfl
   try simp only [Act.put,zsA,zsB,zsC]
   refine takeH (i:=9) (d:=14) (v:=?_) rfl rfl (Or.inl ⟨by rfl,?y9⟩) hH1 ?_
   case y9=>intro w hSw;go_simp;try with_reducible rfl
   try simp only [Act.put,zsA,zsB,zsC]
   refine takeH (i:=10) (d:=15) (v:=?_) rfl rfl (Or.inl ⟨by rfl,?y10⟩) hH1 ?_
   case y10=>intro w hSw;go_simp;try with_reducible rfl
   try simp only [Act.put,zsA,zsB,zsC]
   refine takeH (i:=11) (d:=16) (v:=?_) rfl rfl (Or.inl ⟨by rfl,?y11⟩) hH1 ?_
   case y11=>intro w hSw;go_simp;try with_reducible rfl
   try simp only [Act.put,zsA,zsB,zsC]
   refine takeH (i:=12) (d:=17) (v:=?_) rfl rfl (Or.inl ⟨by rfl,?y12⟩) hH1 ?_
   case y12=>intro w hSw;go_simp;try with_reducible rfl
   try simp only [Act.put,zsA,zsB,zsC]
   refine takeH (i:=13) (d:=18) (v:=?_) rfl rfl (Or.inl ⟨by rfl,?y13⟩) hH1 ?_
   case y13=>intro w hSw;go_simp;try with_reducible rfl
   try simp only [Act.put,zsA,zsB,zsC]
   refine takeH (i:=14) (d:=19) (v:=undef) rfl rfl (Or.inr ⟨by rfl,rfl⟩) hH1 ?_
   try simp only [Act.put,zsA,zsB,zsC]
   refine takeH (i:=15) (d:=20) (v:=undef) rfl rfl (Or.inr ⟨by rfl,rfl⟩) hH1 ?_
   try simp only [Act.put,zsA,zsB,zsC]
   refine takeH (i:=16) (d:=21) (v:=undef) rfl rfl (Or.inr ⟨by rfl,rfl⟩) hH1 ?_
   try simp only [Act.put,zsA,zsB,zsC]
   refine takeH (i:=17) (d:=22) (v:=undef) rfl rfl (Or.inr ⟨by rfl,rfl⟩) hH1 ?_
   try simp only [Act.put,zsA,zsB,zsC]
   refine takeH (i:=18) (d:=23) (v:=undef) rfl rfl (Or.inr ⟨by rfl,rfl⟩) hH1 ?_
   try simp only [Act.put,zsA,zsB,zsC]
   refine takeH (i:=19) (d:=24) (v:=?_) rfl rfl (Or.inl ⟨by rfl,?y19⟩) hH1 ?_
   case y19=>intro w hSw;go_simp;try with_reducible rfl
   try simp only [Act.put,zsA,zsB,zsC]
   refine takeH (i:=20) (d:=4) (v:=?_) rfl rfl (Or.inl ⟨by rfl,?y20⟩) hH1 ?_
   case y20=>intro w hSw;go_simp;try with_reducible rfl
   try simp only [Act.put,zsA,zsB,zsC]
   refine wpAnyH_done (by kernel_rfl) ?_ _
   go_wp2_with fail
   go_ret
   exact ⟨by rw [HRR.out];first|rfl|simp [*],HB.out.trans (hH1.2.mono HB.out.size)⟩
 ·have HRR:Hid (R=false):=Lib.hid (by rw [HR.out,decide_eq_false_iff_not];exact fun h=>d1 h.1)
  have e1:(e.id == la+1)=false:=by simpa using d1
  clear HR d1
  go_enter Tryz.func72,Tryz.ntmps72
  go_wp2_with fail
  refine wp_region_held_drew (S:=fun w'=>((w'.cell? ⟨w.heap.size,0,none⟩=some (.int .u64 e.id)∧w'.cell? ⟨w.heap.size,1,none⟩=some (.int .u64 e.off)∧w'.cell? ⟨w.heap.size,2,none⟩=some (.int .u32 e.ln)∧w'.cell? ⟨w.heap.size,3,none⟩=some (.int .u32 e.rn))∧(w'.cell? ⟨w.heap.size+1,0,none⟩=some (.int .u64 a.id)∧w'.cell? ⟨w.heap.size+1,1,none⟩=some (.int .u64 a.off)∧w'.cell? ⟨w.heap.size+1,2,none⟩=some (.int .u32 a.ln)∧w'.cell? ⟨w.heap.size+1,3,none⟩=some (.int .u32 a.rn)))∧Below W.heap.size W w') (by kernel_rfl) (HK.out _ (Below.drew (Below.refl _ _))) (fun hH0=>?_)
  refine takeH (i:=0) (d:=5) (v:=?_) rfl rfl (Or.inl ⟨by rfl,?y0⟩) hH0 ?_
  case y0=>intro w hSw;go_simp;try with_reducible rfl
  try simp only [Act.put,zsA,zsB,zsC]
  refine takeH (i:=1) (d:=6) (v:=?_) rfl rfl (Or.inl ⟨by rfl,?y1⟩) hH0 ?_
  case y1=>intro w hSw;go_simp;try with_reducible rfl
  try simp only [Act.put,zsA,zsB,zsC]
  refine takeH (i:=2) (d:=7) (v:=?_) rfl rfl (Or.inl ⟨by rfl,?y2⟩) hH0 ?_
  case y2=>intro w hSw;go_simp;try with_reducible rfl
  try simp only [Act.put,zsA,zsB,zsC]
  refine wpAnyH_ready (rs:=[3]) (by kernel_rfl) (by simp) ?_
  refine AllReadyH.cons rfl (fun K hK=>?_) AllReadyH.nil
  go_simp
  refine (HL.out _).mono ?_
  rintro e w' ⟨rfl,hb⟩
  go_wp2_with fail
  refine hK.out _ _ (HK.out _ (hH0.2.trans (hb.mono hH0.2.size))) (fun hH1=>?_)
  clear hK K hb hH0
  try simp only [Act.put,zsA,zsB,zsC]
  refine takeH (i:=4) (d:=9) (v:=?_) rfl rfl (Or.inl ⟨by rfl,?y4⟩) hH1 ?_
  case y4=>intro w hSw;go_simp;try with_reducible rfl
  try simp only [Act.put,zsA,zsB,zsC]
  refine takeH (i:=5) (d:=10) (v:=?_) rfl rfl (Or.inl ⟨by rfl,?y5⟩) hH1 ?_
  case y5=>intro w hSw;go_simp;try with_reducible rfl
  try simp only [Act.put,zsA,zsB,zsC]
  refine takeH (i:=6) (d:=11) (v:=?_) rfl rfl (Or.inl ⟨by rfl,?y6⟩) hH1 ?_
  case y6=>intro w hSw;go_simp;try with_reducible rfl
  try simp only [Act.put,zsA,zsB,zsC]
  refine takeH (i:=7) (d:=12) (v:=undef) rfl rfl (Or.inr ⟨by rfl,rfl⟩) hH1 ?_
  try simp only [Act.put,zsA,zsB,zsC]
  refine takeH (i:=8) (d:=13) (v:=undef) rfl rfl (Or.inr ⟨by rfl,rfl⟩) hH1 ?_
  try simp only [Act.put,zsA,zsB,zsC]
  refine takeH (i:=9) (d:=14) (v:=undef) rfl rfl (Or.inr ⟨by rfl,rfl⟩) hH1 ?_
  try simp only [Act.put,zsA,zsB,zsC]
  refine takeH (i:=10) (d:=15) (v:=undef) rfl rfl (Or.inr ⟨by rfl,rfl⟩) hH1 ?_
  try simp only [Act.put,zsA,zsB,zsC]
  refine takeH (i:=11) (d:=16) (v:=undef) rfl rfl (Or.inr ⟨by rfl,rfl⟩) hH1 ?_
  try simp only [Act.put,zsA,zsB,zsC]
  refine takeH (i:=12) (d:=17) (v:=?_) rfl rfl (Or.inl ⟨by rfl,?y12⟩) hH1 ?_
  case y12=>intro w hSw;go_simp;try with_reducible rfl
  try simp only [Act.put,zsA,zsB,zsC]
  refine takeH (i:=13) (d:=18) (v:=?_) rfl rfl (Or.inl ⟨by rfl,?y13⟩) hH1 ?_
  case y13=>intro w hSw;go_simp;try with_reducible rfl
  try simp only [Act.put,zsA,zsB,zsC]
  refine takeH (i:=14) (d:=19) (v:=undef) rfl rfl (Or.inr ⟨by rfl,rfl⟩) hH1 ?_
  try simp only [Act.put,zsA,zsB,zsC]
  refine takeH (i:=15) (d:=20) (v:=undef) rfl rfl (Or.inr ⟨by rfl,rfl⟩) hH1 ?_
  try simp only [Act.put,zsA,zsB,zsC]
  refine takeH (i:=16) (d:=21) (v:=undef) rfl rfl (Or.inr ⟨by rfl,rfl⟩) hH1 ?_
  try simp only [Act.put,zsA,zsB,zsC]
  refine takeH (i:=17) (d:=22) (v:=undef) rfl rfl (Or.inr ⟨by rfl,rfl⟩) hH1 ?_
  try simp only [Act.put,zsA,zsB,zsC]
  refine takeH (i:=18) (d:=23) (v:=undef) rfl rfl (Or.inr ⟨by rfl,rfl⟩) hH1 ?_
  try simp only [Act.put,zsA,zsB,zsC]
  refine takeH (i:=19) (d:=24) (v:=?_) rfl rfl (Or.inl ⟨by rfl,?y19⟩) hH1 ?_
  case y19=>intro w hSw;go_simp;try with_reducible rfl
  try simp only [Act.put,zsA,zsB,zsC]
  refine takeH (i:=20) (d:=4) (v:=?_) rfl rfl (Or.inl ⟨by rfl,?y20⟩) hH1 ?_
  case y20=>intro w hSw;go_simp;try with_reducible rfl
  try simp only [Act.put,zsA,zsB,zsC]
  refine wpAnyH_done (by kernel_rfl) ?_ _
  go_wp2_with fail
  go_ret
  exact ⟨by rw [HRR.out];first|rfl|simp [*],HB.out.trans (hH1.2.mono HB.out.size)⟩
theorem own_ent {w:World} {B g:Nat} {E T:TypeId} {v:Value} {l:List It} {cs:Array Value} {m:Nat × Nat} (h:OwnIt w B E v l) (ho:w.heap[g]?=some (.cells cs T m)) (hT:T≠E):v.ownBlock≠some g:=by
 intro e
 rcases h.2 with ⟨rfl,_⟩|⟨g',cap,cur,rfl,_,h2,_⟩
 ·cases e
 ·cases e
  rw [ho] at h2
  cases h2
  exact hT rfl
def EBox (w:World) (g:Nat) (e:En):Prop:=w.heap[g]?=some (.cells (eC e) 124 (0,0))
theorem EBox.lt {w:World} {g:Nat} {e:En} (h:EBox w g e):g<w.heap.size:=(Array.getElem?_eq_some_iff.1 h).1
theorem EBox.at {w:World} {g:Nat} {e:En} (h:EBox w g e):EAt w g e:=by
 unfold EBox eC at h
 refine ⟨?_,?_,?_,?_⟩ <;> simp [World.cell?,h]
theorem EBox.below {w w':World} {g:Nat} {e:En} (h:EBox w g e) (hb:Below w.heap.size w w'):EBox w' g e:=(hb.block g h.lt).trans h
theorem EBox.grown {w w':World} {B g:Nat} {v:Value} {l:List It} {e:En} (h:EBox w g e) (ho:OwnIt w B 69 v l) (hg:w.grownBy w' v.ownBlock):EBox w' g e :=
 (hg.block g h.lt (fun e'=>own_ent ho h (by decide) e'.symm)).trans h
theorem backG_chk (l:List En) (i:Nat) (e:En) (d:ByteArray) (acc:List It) (h:l[i]?=some e):backG (l.drop i) d acc (acc.length:Nat)=if chkN e acc.length d.size=0 then backG (l.drop (i+1)) d (acc++runN e d) ((acc.length:Nat)+e.rn) else ([],chkN e acc.length d.size):=by
 rw [backG_step l i e d acc _ h]
 unfold chkN
 by_cases h1:e.rn=0
 ·rw [if_pos h1,if_pos h1];rfl
 rw [if_neg h1,if_neg h1]
 by_cases h2:(d.size:Int)<e.off+e.ln
 ·rw [if_pos h2,if_pos h2];rfl
 rw [if_neg h2,if_neg h2]
 by_cases h3:2048<((acc.length:Nat):Int)+e.rn
 ·rw [if_pos h3,if_pos h3];rfl
 rw [if_neg h3,if_neg h3]
 by_cases h4:65536<e.ln
 ·rw [if_pos h4,if_pos h4];rfl
 rw [if_neg h4,if_neg h4,if_pos rfl]
theorem chk_ok {e:En} {n d:Nat} (h:chkN e n d=0):e.rn≠0∧e.off+e.ln≤d∧(n:Int)+e.rn≤2048∧e.ln≤65536:=by
 unfold chkN at h
 by_cases h1:e.rn=0
 ·rw [if_pos h1] at h;omega
 rw [if_neg h1] at h
 by_cases h2:(d:Int)<e.off+e.ln
 ·rw [if_pos h2] at h;omega
 rw [if_neg h2] at h
 by_cases h3:2048<(n:Int)+e.rn
 ·rw [if_pos h3] at h;omega
 rw [if_neg h3] at h
 by_cases h4:65536<e.ln
 ·rw [if_pos h4] at h;omega
 exact ⟨h1,by omega,by omega,by omega⟩
theorem back_good {l:List En} {d:ByteArray} {C:List It} (hm:MaysN l) (hr:rowN l=0) (h:backN l d=(C,0)):GoodC C:=by
 have hb:backG l d [] 0=(C,0):=by unfold backN at h;rwa [if_neg (by simpa using hr)] at h
 obtain ⟨h1,h2,h3⟩:=backG_inv l d [] 0 C hb
 rw [List.nil_append] at h2
 have hrow:rowG (-1) l=0:=by
  unfold rowN at hr
  split at hr
  ·omega
  ·exact hr
 rw [h2]
 refine exp_good hm hrow h1 ?_
 rcases h3 with rfl|h3
 ·simp
 ·omega
theorem of_good {C:List It} (h:GoodC C):ofI C=(C,0):=of_perm C C h (List.Perm.refl _)
set_option maxHeartbeats 8000000 in
theorem back13_any (v:Value) (l:List En) (d:ByteArray) (w:World) (hv:EnsAt w v l) (hm:MaysN l) (hd:d.size≤200000000) :
  Calls Tryz.prog 20 #[v,.string d] w fun e w'=>∃ s',e=.returned (.tuple #[.agg #[s'],.int .i64 (backN l d).2])∧ChS w' s' (backN l d).1∧Below w.heap.size w w':=by
 have hba:=below_oneC w (.cells #[.slice none 0 0] 29)
 have HV:=Lib.hid (hv.below hba)
 have HRO:=Lib.hid (prow_any v l _ (hv.below hba) hm)
 have HON:=Lib.hid (one_new w (.slice none 0 0) 29)
 have HBA:=Lib.hid hba
 have HM:=Lib.hid hm
 obtain ⟨a0,c0,rfl,hcap,hmx,-⟩:=hv
 have hml:l.length≤9223372036854775807:=by unfold maxLen at hmx;omega
 obtain ⟨R,hR⟩:∃ R,backN l d=R:=⟨_,rfl⟩
 have HRE:=Lib.hid hR
 rw [hR]
 obtain ⟨q,hq⟩:∃ q,rowN l=q:=⟨_,rfl⟩
 rw [hq] at HRO
 clear hm hba
 by_cases h0:q=0
 ·have e0:(q != 0)=false:=by simpa using h0
  have HB0:Hid (R=backG (l.drop 0) d [] 0):=Lib.hid (by rw [← hR];unfold backN;rw [hq,if_neg (by simpa using h0),List.drop_zero])
  have HQ:=Lib.hid (hq.trans h0)
  have HCK:Hid (∀ e ∈ l,ckN e=0):=Lib.hid (fun e he=>by
   have hrow:=hq.trans h0
   unfold rowN at hrow
   split at hrow
   ·omega
   ·exact (rowG_above (-1) l HM.out hrow e he).2)
  clear h0 hq hR
  go_enter Tryz.func20,Tryz.ntmps20
  go_wp2_with fail
  generalize hW0:w.alloc (.cells #[.slice none 0 0] 29)=W0 at *
  refine HRO.out.mono ?_
  rintro x w1 ⟨rfl,hb1⟩
  have HB1:=Lib.hid (HBA.out.trans (hb1.mono HBA.out.size))
  have HV1:=Lib.hid (HV.out.below hb1)
  have HO1:=Lib.hid (HON.out.below hb1)
  clear hb1 hW0 HV HON HBA HRO
  go_wp2_with fail
  go_loopw [7,21] (fun o x wr=>∃ (i:Nat) (acc:List It),i≤l.length∧x=.int .i64 i∧acc.length≤2048∧Hid (OwnIt wr w1.heap.size 69 o acc)∧Hid (R=backG (l.drop i) d acc acc.length)∧Hid (One wr w.heap.size (.slice none 0 0))∧Hid (Below w.heap.size w wr∧Below w1.heap.size w1 wr)) (fun _ x _=>l.length-(intOf x).toNat)
  case atStart=>exact ⟨0,[],Nat.zero_le _,rfl,by simp,Lib.hid (ownIt_nil _ _ _),HB0,HO1,Lib.hid ⟨HB1.out,Below.refl _ _⟩⟩
  case round =>
   obtain ⟨i,acc,hi,rfl,hal,HO,HR,HC1,HBW⟩:=hrel
   by_cases hlt:i<l.length
   ·obtain ⟨e,he⟩:∃ e,l[i]?=some e:=⟨_,List.getElem?_eq_getElem hlt⟩
    have hme:=HM.out e (List.mem_of_getElem? he)
    have hck:=ck_ok e (HCK.out e (List.mem_of_getElem? he))
    have hme2:=hme
    unfold MayN at hme2
    have HR2:=Lib.hid (HR.out.trans (backG_chk l i e d acc he))
    obtain ⟨g,off,cap,hv2,hle,hg,hc⟩:=ens_at HV1.out i hlt
    cases hv2
    obtain ⟨k0,k1,k2,k3⟩:=cells4 HBW.out.2 (hc i e he)
    obtain ⟨a7,c7,rfl⟩:=HO.out.slice
    have hii:(i:Int)<(l.length:Int):=by omega
    have HEB:Hid (EBox (wr.alloc (.cells (eC e) 124)) wr.heap.size e):=Lib.hid (heap_new wr _)
    have HBX:=Lib.hid (below_oneC wr (.cells (eC e) 124))
    have HCH:=Lib.hid (fun W=>mcheck_any e acc.length d W hme (by omega) (by omega) (by omega))
    unfold eC at HBX HCH HEB
    have HM2:=Lib.hid (And.intro hme2 hck)
    clear hc he hme hme2 hck HR
    by_cases hz:chkN e acc.length d.size=0
    ·have HOK:=Lib.hid (chk_ok hz)
     have HR3:=Lib.hid (HR2.out.trans (if_pos hz))
     rw [hz] at HCH
     clear hz HR2
     go_wp2_with fail
     generalize hWx:wr.alloc (.cells #[.int .u64 e.id,.int .u64 e.off,.int .u32 e.ln,.int .u32 e.rn] 124)=Wx at *
     refine (HCH.out _).mono ?_
     rintro x w2 ⟨rfl,hb2⟩
     have HEB2:=Lib.hid (HEB.out.below hb2)
     have hbx2:=HBX.out.trans (hb2.mono HBX.out.size)
     have HO2:=Lib.hid (HO.out.below hbx2)
     have HC2:=Lib.hid (HC1.out.below hbx2)
     have HBW2:=Lib.hid (And.intro (HBW.out.1.trans (hbx2.mono HBW.out.1.size)) (HBW.out.2.trans (hbx2.mono HBW.out.2.size)))
     obtain ⟨e0,e1,e2,e3⟩:=HEB2.out.at
     obtain ⟨o1,o2,o3,o4⟩:=HOK.out
     have hw1:IntKind.u64.wrap e.rn=e.rn:=by have:=HM2.out.1;rw [IntKind.wrap_u64];omega
     have hw3:IntKind.u64.wrap e.ln=e.ln:=by have:=HM2.out.1;rw [IntKind.wrap_u64];omega
     have hw4:IntKind.u64.wrap (e.off+e.ln)=e.off+e.ln:=by have:=HM2.out.1;rw [IntKind.wrap_u64];omega
     have hs1:(0:Int)≤e.off:=HM2.out.1.2.1.1
     have hs2:e.off≤e.off+e.ln:=by have:=HM2.out.1;omega
     have hs3:e.off+e.ln≤(d.size:Int):=o2
     have HRN:=Lib.hid o3
     clear hb2 hbx2 hWx HEB HBX HO HC1 HBW HCH k0 k1 k2 k3 o1 o3 o4 o2
     go_wp2_with fail
     have HTX:Hid (d.extract e.off.toNat (e.off+e.ln).toNat=txN e d):=Lib.hid (by have:=HM2.out.1;unfold txN;rw [show (e.off+e.ln).toNat=e.off.toNat+e.ln.toNat by omega])
     rw [HTX.out]
     have HRL:=Lib.hid (runN_len e d)
     have HRT:=Lib.hid (run_at e d)
     clear e0 e1 e2 e3 hs1 hs2 hs3
     generalize txN e d=tx at *
     generalize runN e d=rl at *
     go_loopw [7,47] (fun o x wy=>∃ j:Nat,(j:Int)≤e.rn∧x=.int .u64 j∧Hid (OwnIt wy w1.heap.size 69 o (acc++rl.take j))∧Hid (EBox wy wr.heap.size e)∧Hid (One wy w.heap.size (.slice none 0 0))∧Hid (Below w.heap.size w wy∧Below w1.heap.size w1 wy)) (fun _ x _=>e.rn.toNat-(intOf x).toNat)
     case atStart=>exact ⟨0,by have:=HM2.out.1;omega,rfl,Lib.hid (by rw [List.take_zero,List.append_nil];exact HO2.out),HEB2,HC2,HBW2⟩
     case round =>
      obtain ⟨j,hj,rfl,HOJ,HEJ,HCJ,HBJ⟩:=hrel
      obtain ⟨k0,k1,k2,k3⟩:=HEJ.out.at
      by_cases hjl:(j:Int)<e.rn
      ·have htake:=itake_at rl j _ (HRT.out j hjl)
       have hid:e.id+(j:Int)=((e.id.toNat+j:Nat):Int):=by have:=HM2.out.1;omega
       have hw6:IntKind.u64.wrap (e.id+(j:Int))=e.id+(j:Int):=by have:=HM2.out;rw [IntKind.wrap_u64];omega
       have hw7:IntKind.u64.wrap ((j:Int)+1)=(j:Int)+1:=by have:=HM2.out.1;rw [IntKind.wrap_u64];omega
       have hx:=it_lit2 wr (e.id+(j:Int)) _ hid tx 69
       have hba:Below wr.heap.size wr (wr.alloc (.cells #[.int .u64 (e.id+(j:Int)),.string tx] 69)):=below_oneC _ _
       obtain ⟨v5,w5,hr5,ho5,hg5⟩:=itappend_run (wr.alloc (.cells #[.int .u64 (e.id+(j:Int)),.string tx] 69)) w1.heap.size 27 69 27 _ Tryz.underlying27 infoPit rfl u7 (.slice (some ⟨wr.heap.size,0,none⟩) 1 1) (acc++rl.take j) [(e.id.toNat+j,tx)] (HOJ.out.below hba) hx (by have:=HRN.out;rw [List.length_append,List.length_take];simp;omega) (Nat.le_trans HBJ.out.2.size hba.size)
       rw [List.append_assoc,← htake] at ho5
       have HO5:=Lib.hid ho5
       have hb5:Below w1.heap.size w1 w5:=(HBJ.out.2.trans (hba.mono HBJ.out.2.size)).grown hg5 (Nat.le_trans HBJ.out.2.size hba.size) (fun q hq=>(HOJ.out.lt q hq).1)
       have HB5:Hid (Below w.heap.size w w5∧Below w1.heap.size w1 w5):=Lib.hid ⟨HB1.out.trans (hb5.mono HB1.out.size),hb5⟩
       have HE5:=Lib.hid ((HEJ.out.below hba).grown (HOJ.out.below hba) hg5)
       have HC5:=Lib.hid ((HCJ.out.below hba).grown (HOJ.out.below hba) hg5)
       clear ho5 hg5 hx hba hid htake hb5
       go_wp2_with (first|(at_builtin;refine Lib.wpList_append_run _ rfl _ _ _ _ rfl _ _ rfl rfl _ _ hr5 ?_)|fail)
       go_roundw
       case rel=>exact ⟨j+1,by omega,by go_num,HO5,HE5,HC5,HB5⟩
       case measure=>simp [intOf];omega
      ·have hje:(j:Int)=e.rn:=by omega
       have hjn:j=e.rn.toNat:=by omega
       have hfull:rl.take j=rl:=List.take_of_length_le (by rw [HRL.out];omega)
       have HOF:=HOJ.out
       rw [hfull] at HOF
       have HOF:=Lib.hid HOF
       have hall:(acc++rl).length=acc.length+e.rn.toNat:=by rw [List.length_append,HRL.out]
       have HRR:Hid (R=backG (l.drop (i+1)) d (acc++rl) (((acc++rl).length:Nat):Int)):=Lib.hid (by rw [hall,show ((acc.length+e.rn.toNat:Nat):Int)=((acc.length:Nat):Int)+e.rn by omega];exact HR3.out)
       have HAL:Hid ((acc++rl).length≤2048):=Lib.hid (by have:=HRN.out;rw [hall];omega)
       clear hfull hje hjn hall
       go_wp2_with fail
       go_roundw
       case rel=>exact ⟨i+1,acc++rl,by omega,by go_num,HAL.out,HOF,HRR,HCJ,HBJ⟩
       case measure=>simp [intOf];omega
    ·have HR3:=Lib.hid (HR2.out.trans (if_neg hz))
     obtain ⟨z,hzz⟩:∃ z,chkN e acc.length d.size=z:=⟨_,rfl⟩
     rw [hzz] at hz HR3 HCH
     have hzn:(z != 0)=true:=by simpa using hz
     clear hz HR2 hzz
     go_wp2_with fail
     generalize hWx:wr.alloc (.cells #[.int .u64 e.id,.int .u64 e.off,.int .u32 e.ln,.int .u32 e.rn] 124)=Wx at *
     refine (HCH.out _).mono ?_
     rintro x w2 ⟨rfl,hb2⟩
     have hbx2:=HBX.out.trans (hb2.mono HBX.out.size)
     have HC2:=Lib.hid (HC1.out.below hbx2)
     have HBW2:=Lib.hid (HBW.out.1.trans (hbx2.mono HBW.out.1.size))
     have rr:=HC2.out.cell
     have rf:=HC2.out.frz
     clear hb2 hbx2 hWx HEB HBX HO HC1 HBW HCH k0 k1 k2 k3
     go_wp2_with fail
     refine bodyPost_ret (results_o2 rfl _ _ w.heap.size _ _ _ rfl rfl (HC2.out.set _).cell Tryz.underlying29 rfl chart_size) rfl ⟨_,by rw [HR3.out];rfl,?_,HBW2.out.setCell (p:=⟨w.heap.size,0,none⟩) (Nat.le_refl _) _⟩
     rw [HR3.out]
     exact chS_nil _
   ·obtain rfl:i=l.length:=by omega
    have HRR:=HR.out
    rw [List.drop_length,backG] at HRR
    have HG:=back_good HM.out HQ.out (HRE.out.trans HRR)
    have hof:=of_good HG
    have HRR:=Lib.hid HRR
    have hOF:=of_anyC u7 acc wr HO.out.itsAt (by omega) (fun t ht=>by have:=HG.low t ht;omega) (fun t ht=>by have:=HG.short t ht;unfold maxLen;omega)
    rw [hof] at hOF
    have HOF:=Lib.hid hOF
    obtain ⟨a7,c7,rfl⟩:=HO.out.slice
    clear hOF hof HG
    go_wp2_with fail
    refine HOF.out.mono ?_
    rintro x w3 ⟨s',rfl,hch,hb3⟩
    obtain ⟨a9,n9,c9,rfl⟩:=hch.form
    have HC3:=Lib.hid (HC1.out.below hb3)
    have HCH3:=Lib.hid hch
    have HB3:=Lib.hid (HBW.out.1.trans (hb3.mono HBW.out.1.size))
    have rr:=HC3.out.cell
    have rf:=HC3.out.frz
    clear hch hb3 HC1 HBW HOF
    go_wp2_with fail
    refine bodyPost_ret (results_o2 rfl _ _ w.heap.size _ _ _ rfl rfl (HC3.out.set _).cell Tryz.underlying29 rfl chart_size) rfl ⟨_,by rw [HRR.out];rfl,?_,HB3.out.setCell (p:=⟨w.heap.size,0,none⟩) (Nat.le_refl _) _⟩
    rw [HRR.out]
    exact HCH3.out.set HC3.out _
 ·have e0:(q != 0)=true:=by simpa using h0
  have HRR:Hid (R=([],q)):=Lib.hid (by rw [← hR];unfold backN;rw [hq,if_pos h0])
  clear h0 hq hR
  go_enter Tryz.func20,Tryz.ntmps20
  go_wp2_with fail
  generalize hW0:w.alloc (.cells #[.slice none 0 0] 29)=W0 at *
  refine HRO.out.mono ?_
  rintro x w1 ⟨rfl,hb1⟩
  have HB1:=Lib.hid (HBA.out.trans (hb1.mono HBA.out.size))
  have HO1:=Lib.hid (HON.out.below hb1)
  have rr:=HO1.out.cell
  have rf:=HO1.out.frz
  clear hb1 hW0 HV HON HBA HRO
  go_wp2_with fail
  refine bodyPost_ret (results_o2 rfl _ _ w.heap.size _ _ _ rfl rfl (HO1.out.set _).cell Tryz.underlying29 rfl chart_size) rfl ⟨_,by rw [HRR.out];rfl,?_,HB1.out.setCell (p:=⟨w.heap.size,0,none⟩) (Nat.le_refl _) _⟩
  rw [HRR.out]
  exact chS_nil _
end Go.Proofs.YtdnmgpcfgcidbaaGreatDoor
