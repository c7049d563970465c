/- aEf. -/
import Derived.Test.YtdnmgpcfgcidbaaGreatDoorTa1
import Derived.Test.YtdnmgpcfgcidbaaGreatDoorTs
namespace Go.Proofs.YtdnmgpcfgcidbaaGreatDoor
set_option linter.unusedVariables false
set_option linter.unusedSimpArgs false
open Go.RowKit
set_option maxRecDepth 20000
set_option maxRecDepth 20000 in
set_option maxHeartbeats 2000000 in
theorem rfirstN_any (v:Value) (l:List En) (k:Nat) (f:En) (w:World) (hv:EnsAt w v l) (hm:MaysN l) (hk:l[k]?=some f):Calls Tryz.prog 107 #[v,.int .i64 k] w fun x w'=>x=.returned (.bool (decide ((f.off,f.ln) ∉ pairN (l.take k))))∧Below w.heap.size w w':=by
 obtain⟨al,cap,rfl,hcap,hmx,hc⟩:=hv
 have hml:l.length≤9223372036854775807:=by unfold maxLen at hmx;omega
 have HC:=Lib.hid hc
 have HM:=Lib.hid hm
 have hkl:k<l.length:=(List.getElem?_eq_some_iff.1 hk).1
 have HK2:=Lib.hid hk
 obtain⟨R,hR⟩:∃ R,decide ((f.off,f.ln) ∉ pairN (l.take k))=R:=⟨_,rfl⟩
 rw[hR]
 have HR:=Lib.hid hR
 clear hc hm hR hk
 go_enter Tryz.func107,Tryz.ntmps107
 go_wp2_with fail
 go_loopw [5] (fun s wr=>∃ i:Nat,i≤k∧s=.int .i64 i∧Hid ((f.off,f.ln) ∉ pairN (l.take i))∧Below w.heap.size w wr) (fun s _=>k - (intOf s).toNat)
 case atStart=>exact⟨0,Nat.zero_le _,rfl,Lib.hid (by simp[pairN]),Below.refl _ _⟩
 case round =>
  obtain⟨i,hi,rfl,HG,hbw⟩:=hrel
  by_cases hlt:i<k
  ·obtain⟨e,he⟩:∃ t,l[i]?=some t:=⟨_,List.getElem?_eq_getElem (by omega)⟩
   obtain⟨g,off,rfl,hg,l0,l1,l2,l3⟩:=HC.out i e he
   obtain⟨g',off',ha,hg',f0,f1,f2,f3⟩:=HC.out k f HK2.out
   obtain⟨rfl,rfl⟩:g=g'∧off=off':=by simpa using ha
   have hme:=HM.out e (List.mem_of_getElem? he)
   have HK:=Lib.hid (fun W=>rcheckN_any e W hme)
   have HT:Hid (pairN (l.take (i+1))=pairN (l.take i)++(if ckN e=0∧0<e.rn then [(e.off,e.ln)] else [])):=Lib.hid (by rw[take_one l i e he,pairN_snoc])
   have HSub:Hid (∀ q,q ∈ pairN (l.take (i+1))→q ∈ pairN (l.take k)):=Lib.hid (fun q hq=>by
    rw[show l.take k=l.take (i+1)++(l.drop (i+1)).take (k - (i+1)) from by rw[← List.take_add];congr 1;omega,pairN_append]
    exact List.mem_append_left _ hq)
   have hi2:(i:Int)<(l.length:Int):=by omega
   have hi3:(k:Int)<(l.length:Int):=by omega
   have hi4:(0:Int)≤(i:Int):=by omega
   have hi5:(0:Int)≤(k:Int):=by omega
   have hik:decide ((i:Int)<(k:Int))=true:=by simp;omega
   have hik2:decide (i<k)=true:=by simp;omega
   have HS0:=keep2E (Below.drew (Below.refl _ _)) ⟨cells4 hbw ⟨l0,l1,l2,l3⟩,cells4 hbw ⟨f0,f1,f2,f3⟩,hbw⟩
   clear he hme l0 l1 l2 l3 f0 f1 f2 f3 hbw ha hg'
   unfold eC at HK
   by_cases h0:ckN e=0
   ·rw[h0] at HK
    by_cases h1:0<e.rn
    ·have d1:decide (0<e.rn)=true:=by simpa using h1
     rw[if_pos ⟨h0,h1⟩] at HT
     by_cases h2:e.off=f.off
     ·have d2:(e.off == f.off)=true:=by simpa using h2
      by_cases h3:e.ln=f.ln
      ·have d3:(e.ln == f.ln)=true:=by simpa using h3
       have hR:R=false:=by
        rw[← HR.out,decide_eq_false_iff_not,Classical.not_not]
        apply HSub.out
        rw[HT.out,h2,h3]
        simp
       subst hR
       clear h0 h1 h2 h3 HT HSub HR
       go_upto_region 4 with fail
       refine wp_region_held_drew (S:=fun w'=>(w'.cell? ⟨g,off+i*4,none⟩=some (.int .u64 e.id)∧w'.cell? ⟨g,off+i*4+1,none⟩=some (.int .u64 e.off)∧w'.cell? ⟨g,off+i*4+2,none⟩=some (.int .u32 e.ln)∧w'.cell? ⟨g,off+i*4+3,none⟩=some (.int .u32 e.rn))∧(w'.cell? ⟨g,off+k*4,none⟩=some (.int .u64 f.id)∧w'.cell? ⟨g,off+k*4+1,none⟩=some (.int .u64 f.off)∧w'.cell? ⟨g,off+k*4+2,none⟩=some (.int .u32 f.ln)∧w'.cell? ⟨g,off+k*4+3,none⟩=some (.int .u32 f.rn))∧Below w.heap.size w w') (by kernel_rfl) HS0 (fun hH0=>?_)
       refine tK 0 11 hH0 ?_
       try simp only[Act.put,zsA,zsB,zsC]
       refine tK 1 12 hH0 ?_
       try simp only[Act.put,zsA,zsB,zsC]
       refine tK 2 13 hH0 ?_
       try simp only[Act.put,zsA,zsB,zsC]
       refine tK 3 14 hH0 ?_
       try simp only[Act.put,zsA,zsB,zsC]
       refine wpAnyH_ready (rs:=[4]) (by kernel_rfl) (by simp) ?_
       refine AllReadyH.cons rfl (fun K hK=>?_) AllReadyH.nil
       go_simp
       refine(HK.out _).mono ?_
       rintro e w' ⟨rfl,hb⟩
       go_wp2_with fail
       refine hK.out _ _ (keep2E hb hH0) (fun hH1=>?_)
       clear hK K hb hH0
       try simp only[Act.put,zsA,zsB,zsC]
       refine tK 5 16 hH1 ?_
       try simp only[Act.put,zsA,zsB,zsC]
       refine tK 6 17 hH1 ?_
       try simp only[Act.put,zsA,zsB,zsC]
       refine tK 7 18 hH1 ?_
       try simp only[Act.put,zsA,zsB,zsC]
       refine tK 8 19 hH1 ?_
       try simp only[Act.put,zsA,zsB,zsC]
       refine tK 9 20 hH1 ?_
       try simp only[Act.put,zsA,zsB,zsC]
       refine tK 10 21 hH1 ?_
       try simp only[Act.put,zsA,zsB,zsC]
       refine tK 11 22 hH1 ?_
       try simp only[Act.put,zsA,zsB,zsC]
       refine tK 12 23 hH1 ?_
       try simp only[Act.put,zsA,zsB,zsC]
       refine tK 13 24 hH1 ?_
       try simp only[Act.put,zsA,zsB,zsC]
       refine tK 14 25 hH1 ?_
       try simp only[Act.put,zsA,zsB,zsC]
       refine tK 15 26 hH1 ?_
       try simp only[Act.put,zsA,zsB,zsC]
       refine tK 16 27 hH1 ?_
       try simp only[Act.put,zsA,zsB,zsC]
       refine tK 17 28 hH1 ?_
       try simp only[Act.put,zsA,zsB,zsC]
       refine tK 18 29 hH1 ?_
       try simp only[Act.put,zsA,zsB,zsC]
       refine tK 19 30 hH1 ?_
       try simp only[Act.put,zsA,zsB,zsC]
       refine tK 20 31 hH1 ?_
       try simp only[Act.put,zsA,zsB,zsC]
       refine tK 21 32 hH1 ?_
       try simp only[Act.put,zsA,zsB,zsC]
       refine tK 22 33 hH1 ?_
       try simp only[Act.put,zsA,zsB,zsC]
       refine tK 23 34 hH1 ?_
       try simp only[Act.put,zsA,zsB,zsC]
       refine tK 24 35 hH1 ?_
       try simp only[Act.put,zsA,zsB,zsC]
       refine tK 25 36 hH1 ?_
       try simp only[Act.put,zsA,zsB,zsC]
       refine tK 26 37 hH1 ?_
       try simp only[Act.put,zsA,zsB,zsC]
       refine tK 27 38 hH1 ?_
       try simp only[Act.put,zsA,zsB,zsC]
       refine tK 28 39 hH1 ?_
       try simp only[Act.put,zsA,zsB,zsC]
       refine tK 29 40 hH1 ?_
       try simp only[Act.put,zsA,zsB,zsC]
       refine tK 30 41 hH1 ?_
       try simp only[Act.put,zsA,zsB,zsC]
       refine tK 31 42 hH1 ?_
       try simp only[Act.put,zsA,zsB,zsC]
       refine tK 32 43 hH1 ?_
       try simp only[Act.put,zsA,zsB,zsC]
       refine tK 33 44 hH1 ?_
       try simp only[Act.put,zsA,zsB,zsC]
       refine tK 34 45 hH1 ?_
       try simp only[Act.put,zsA,zsB,zsC]
       refine tK 35 46 hH1 ?_
       try simp only[Act.put,zsA,zsB,zsC]
       refine tK 36 47 hH1 ?_
       try simp only[Act.put,zsA,zsB,zsC]
       refine tK 37 48 hH1 ?_
       try simp only[Act.put,zsA,zsB,zsC]
       refine tK 38 49 hH1 ?_
       try simp only[Act.put,zsA,zsB,zsC]
       refine tK 39 50 hH1 ?_
       try simp only[Act.put,zsA,zsB,zsC]
       refine wpAnyH_done (by kernel_rfl) ?_ _
       go_wp2_with fail
       go_ret
       exact⟨rfl,hH1.2.2⟩
      ·have d3:(e.ln == f.ln)=false:=by simpa using h3
       have HG2:Hid ((f.off,f.ln) ∉ pairN (l.take (i+1))):=Lib.hid (by
        rw[HT.out,List.mem_append,List.mem_singleton]
        exact fun h=>h.elim HG.out (fun h=>h3 (Prod.mk.inj h).2.symm))
       clear h0 h1 h2 h3 HT HSub HG
       go_upto_region 4 with fail
       refine wp_region_held_drew (S:=fun w'=>(w'.cell? ⟨g,off+i*4,none⟩=some (.int .u64 e.id)∧w'.cell? ⟨g,off+i*4+1,none⟩=some (.int .u64 e.off)∧w'.cell? ⟨g,off+i*4+2,none⟩=some (.int .u32 e.ln)∧w'.cell? ⟨g,off+i*4+3,none⟩=some (.int .u32 e.rn))∧(w'.cell? ⟨g,off+k*4,none⟩=some (.int .u64 f.id)∧w'.cell? ⟨g,off+k*4+1,none⟩=some (.int .u64 f.off)∧w'.cell? ⟨g,off+k*4+2,none⟩=some (.int .u32 f.ln)∧w'.cell? ⟨g,off+k*4+3,none⟩=some (.int .u32 f.rn))∧Below w.heap.size w w') (by kernel_rfl) HS0 (fun hH0=>?_)
       refine tK 0 11 hH0 ?_
       try simp only[Act.put,zsA,zsB,zsC]
       refine tK 1 12 hH0 ?_
       try simp only[Act.put,zsA,zsB,zsC]
       refine tK 2 13 hH0 ?_
       try simp only[Act.put,zsA,zsB,zsC]
       refine tK 3 14 hH0 ?_
       try simp only[Act.put,zsA,zsB,zsC]
       refine wpAnyH_ready (rs:=[4]) (by kernel_rfl) (by simp) ?_
       refine AllReadyH.cons rfl (fun K hK=>?_) AllReadyH.nil
       go_simp
       refine(HK.out _).mono ?_
       rintro e w' ⟨rfl,hb⟩
       go_wp2_with fail
       refine hK.out _ _ (keep2E hb hH0) (fun hH1=>?_)
       clear hK K hb hH0
       try simp only[Act.put,zsA,zsB,zsC]
       refine tK 5 16 hH1 ?_
       try simp only[Act.put,zsA,zsB,zsC]
       refine tK 6 17 hH1 ?_
       try simp only[Act.put,zsA,zsB,zsC]
       refine tK 7 18 hH1 ?_
       try simp only[Act.put,zsA,zsB,zsC]
       refine tK 8 19 hH1 ?_
       try simp only[Act.put,zsA,zsB,zsC]
       refine tK 9 20 hH1 ?_
       try simp only[Act.put,zsA,zsB,zsC]
       refine tK 10 21 hH1 ?_
       try simp only[Act.put,zsA,zsB,zsC]
       refine tK 11 22 hH1 ?_
       try simp only[Act.put,zsA,zsB,zsC]
       refine tK 12 23 hH1 ?_
       try simp only[Act.put,zsA,zsB,zsC]
       refine tK 13 24 hH1 ?_
       try simp only[Act.put,zsA,zsB,zsC]
       refine tK 14 25 hH1 ?_
       try simp only[Act.put,zsA,zsB,zsC]
       refine tK 15 26 hH1 ?_
       try simp only[Act.put,zsA,zsB,zsC]
       refine tK 16 27 hH1 ?_
       try simp only[Act.put,zsA,zsB,zsC]
       refine tK 17 28 hH1 ?_
       try simp only[Act.put,zsA,zsB,zsC]
       refine tK 18 29 hH1 ?_
       try simp only[Act.put,zsA,zsB,zsC]
       refine tK 19 30 hH1 ?_
       try simp only[Act.put,zsA,zsB,zsC]
       refine tK 20 31 hH1 ?_
       try simp only[Act.put,zsA,zsB,zsC]
       refine tK 21 32 hH1 ?_
       try simp only[Act.put,zsA,zsB,zsC]
       refine tK 22 33 hH1 ?_
       try simp only[Act.put,zsA,zsB,zsC]
       refine tK 23 34 hH1 ?_
       try simp only[Act.put,zsA,zsB,zsC]
       refine tK 24 35 hH1 ?_
       try simp only[Act.put,zsA,zsB,zsC]
       refine tK 25 36 hH1 ?_
       try simp only[Act.put,zsA,zsB,zsC]
       refine tK 26 37 hH1 ?_
       try simp only[Act.put,zsA,zsB,zsC]
       refine tK 27 38 hH1 ?_
       try simp only[Act.put,zsA,zsB,zsC]
       refine tK 28 39 hH1 ?_
       try simp only[Act.put,zsA,zsB,zsC]
       refine tK 29 40 hH1 ?_
       try simp only[Act.put,zsA,zsB,zsC]
       refine tK 30 41 hH1 ?_
       try simp only[Act.put,zsA,zsB,zsC]
       refine tK 31 42 hH1 ?_
       try simp only[Act.put,zsA,zsB,zsC]
       refine tK 32 43 hH1 ?_
       try simp only[Act.put,zsA,zsB,zsC]
       refine tK 33 44 hH1 ?_
       try simp only[Act.put,zsA,zsB,zsC]
       refine tK 34 45 hH1 ?_
       try simp only[Act.put,zsA,zsB,zsC]
       refine tK 35 46 hH1 ?_
       try simp only[Act.put,zsA,zsB,zsC]
       refine tK 36 47 hH1 ?_
       try simp only[Act.put,zsA,zsB,zsC]
       refine tK 37 48 hH1 ?_
       try simp only[Act.put,zsA,zsB,zsC]
       refine tK 38 49 hH1 ?_
       try simp only[Act.put,zsA,zsB,zsC]
       refine tK 39 50 hH1 ?_
       try simp only[Act.put,zsA,zsB,zsC]
       refine wpAnyH_done (by kernel_rfl) ?_ _
       go_wp2_with fail
       go_roundw
       case rel=>exact⟨i+1,by omega,by go_num,HG2,hH1.2.2⟩
       case measure=>simp[intOf];omega
     ·have d2:(e.off == f.off)=false:=by simpa using h2
      have HG2:Hid ((f.off,f.ln) ∉ pairN (l.take (i+1))):=Lib.hid (by
       rw[HT.out,List.mem_append,List.mem_singleton]
       exact fun h=>h.elim HG.out (fun h=>h2 (Prod.mk.inj h).1.symm))
      clear h0 h1 h2 HT HSub HG
      go_upto_region 4 with fail
      refine wp_region_held_drew (S:=fun w'=>(w'.cell? ⟨g,off+i*4,none⟩=some (.int .u64 e.id)∧w'.cell? ⟨g,off+i*4+1,none⟩=some (.int .u64 e.off)∧w'.cell? ⟨g,off+i*4+2,none⟩=some (.int .u32 e.ln)∧w'.cell? ⟨g,off+i*4+3,none⟩=some (.int .u32 e.rn))∧(w'.cell? ⟨g,off+k*4,none⟩=some (.int .u64 f.id)∧w'.cell? ⟨g,off+k*4+1,none⟩=some (.int .u64 f.off)∧w'.cell? ⟨g,off+k*4+2,none⟩=some (.int .u32 f.ln)∧w'.cell? ⟨g,off+k*4+3,none⟩=some (.int .u32 f.rn))∧Below w.heap.size w w') (by kernel_rfl) HS0 (fun hH0=>?_)
      refine tK 0 11 hH0 ?_
      try simp only[Act.put,zsA,zsB,zsC]
      refine tK 1 12 hH0 ?_
      try simp only[Act.put,zsA,zsB,zsC]
      refine tK 2 13 hH0 ?_
      try simp only[Act.put,zsA,zsB,zsC]
      refine tK 3 14 hH0 ?_
      try simp only[Act.put,zsA,zsB,zsC]
      refine wpAnyH_ready (rs:=[4]) (by kernel_rfl) (by simp) ?_
      refine AllReadyH.cons rfl (fun K hK=>?_) AllReadyH.nil
      go_simp
      refine(HK.out _).mono ?_
      rintro e w' ⟨rfl,hb⟩
      go_wp2_with fail
      refine hK.out _ _ (keep2E hb hH0) (fun hH1=>?_)
      clear hK K hb hH0
      try simp only[Act.put,zsA,zsB,zsC]
      refine tK 5 16 hH1 ?_
      try simp only[Act.put,zsA,zsB,zsC]
      refine tK 6 17 hH1 ?_
      try simp only[Act.put,zsA,zsB,zsC]
      refine tK 7 18 hH1 ?_
      try simp only[Act.put,zsA,zsB,zsC]
      refine tK 8 19 hH1 ?_
      try simp only[Act.put,zsA,zsB,zsC]
      refine tK 9 20 hH1 ?_
      try simp only[Act.put,zsA,zsB,zsC]
      refine tK 10 21 hH1 ?_
      try simp only[Act.put,zsA,zsB,zsC]
      refine tK 11 22 hH1 ?_
      try simp only[Act.put,zsA,zsB,zsC]
      refine tK 12 23 hH1 ?_
      try simp only[Act.put,zsA,zsB,zsC]
      refine tK 13 24 hH1 ?_
      try simp only[Act.put,zsA,zsB,zsC]
      refine tK 14 25 hH1 ?_
      try simp only[Act.put,zsA,zsB,zsC]
      refine tK 15 26 hH1 ?_
      try simp only[Act.put,zsA,zsB,zsC]
      refine tK 16 27 hH1 ?_
      try simp only[Act.put,zsA,zsB,zsC]
      refine tK 17 28 hH1 ?_
      try simp only[Act.put,zsA,zsB,zsC]
      refine tK 18 29 hH1 ?_
      try simp only[Act.put,zsA,zsB,zsC]
      refine tK 19 30 hH1 ?_
      try simp only[Act.put,zsA,zsB,zsC]
      refine tK 20 31 hH1 ?_
      try simp only[Act.put,zsA,zsB,zsC]
      refine tK 21 32 hH1 ?_
      try simp only[Act.put,zsA,zsB,zsC]
      refine tK 22 33 hH1 ?_
      try simp only[Act.put,zsA,zsB,zsC]
      refine tK 23 34 hH1 ?_
      try simp only[Act.put,zsA,zsB,zsC]
      refine tK 24 35 hH1 ?_
      try simp only[Act.put,zsA,zsB,zsC]
      refine tK 25 36 hH1 ?_
      try simp only[Act.put,zsA,zsB,zsC]
      refine tK 26 37 hH1 ?_
      try simp only[Act.put,zsA,zsB,zsC]
      refine tK 27 38 hH1 ?_
      try simp only[Act.put,zsA,zsB,zsC]
      refine tU 28 39 hH1 ?_
      try simp only[Act.put,zsA,zsB,zsC]
      refine tU 29 40 hH1 ?_
      try simp only[Act.put,zsA,zsB,zsC]
      refine tU 30 41 hH1 ?_
      try simp only[Act.put,zsA,zsB,zsC]
      refine tU 31 42 hH1 ?_
      try simp only[Act.put,zsA,zsB,zsC]
      refine tU 32 43 hH1 ?_
      try simp only[Act.put,zsA,zsB,zsC]
      refine tU 33 44 hH1 ?_
      try simp only[Act.put,zsA,zsB,zsC]
      refine tU 34 45 hH1 ?_
      try simp only[Act.put,zsA,zsB,zsC]
      refine tU 35 46 hH1 ?_
      try simp only[Act.put,zsA,zsB,zsC]
      refine tU 36 47 hH1 ?_
      try simp only[Act.put,zsA,zsB,zsC]
      refine tU 37 48 hH1 ?_
      try simp only[Act.put,zsA,zsB,zsC]
      refine tU 38 49 hH1 ?_
      try simp only[Act.put,zsA,zsB,zsC]
      refine tK 39 50 hH1 ?_
      try simp only[Act.put,zsA,zsB,zsC]
      refine wpAnyH_done (by kernel_rfl) ?_ _
      go_wp2_with fail
      go_roundw
      case rel=>exact⟨i+1,by omega,by go_num,HG2,hH1.2.2⟩
      case measure=>simp[intOf];omega
    ·have d1:decide (0<e.rn)=false:=by simpa using h1
     have HG2:Hid ((f.off,f.ln) ∉ pairN (l.take (i+1))):=Lib.hid (by
      rw[HT.out,if_neg (fun h=>h1 h.2),List.append_nil]
      exact HG.out)
     clear h0 h1 HT HSub HG
     go_upto_region 4 with fail
     refine wp_region_held_drew (S:=fun w'=>(w'.cell? ⟨g,off+i*4,none⟩=some (.int .u64 e.id)∧w'.cell? ⟨g,off+i*4+1,none⟩=some (.int .u64 e.off)∧w'.cell? ⟨g,off+i*4+2,none⟩=some (.int .u32 e.ln)∧w'.cell? ⟨g,off+i*4+3,none⟩=some (.int .u32 e.rn))∧(w'.cell? ⟨g,off+k*4,none⟩=some (.int .u64 f.id)∧w'.cell? ⟨g,off+k*4+1,none⟩=some (.int .u64 f.off)∧w'.cell? ⟨g,off+k*4+2,none⟩=some (.int .u32 f.ln)∧w'.cell? ⟨g,off+k*4+3,none⟩=some (.int .u32 f.rn))∧Below w.heap.size w w') (by kernel_rfl) HS0 (fun hH0=>?_)
     refine tK 0 11 hH0 ?_
     try simp only[Act.put,zsA,zsB,zsC]
     refine tK 1 12 hH0 ?_
     try simp only[Act.put,zsA,zsB,zsC]
     refine tK 2 13 hH0 ?_
     try simp only[Act.put,zsA,zsB,zsC]
     refine tK 3 14 hH0 ?_
     try simp only[Act.put,zsA,zsB,zsC]
     refine wpAnyH_ready (rs:=[4]) (by kernel_rfl) (by simp) ?_
     refine AllReadyH.cons rfl (fun K hK=>?_) AllReadyH.nil
     go_simp
     refine(HK.out _).mono ?_
     rintro e w' ⟨rfl,hb⟩
     go_wp2_with fail
     refine hK.out _ _ (keep2E hb hH0) (fun hH1=>?_)
     clear hK K hb hH0
     try simp only[Act.put,zsA,zsB,zsC]
     refine tK 5 16 hH1 ?_
     try simp only[Act.put,zsA,zsB,zsC]
     refine tK 6 17 hH1 ?_
     try simp only[Act.put,zsA,zsB,zsC]
     refine tK 7 18 hH1 ?_
     try simp only[Act.put,zsA,zsB,zsC]
     refine tK 8 19 hH1 ?_
     try simp only[Act.put,zsA,zsB,zsC]
     refine tK 9 20 hH1 ?_
     try simp only[Act.put,zsA,zsB,zsC]
     refine tK 10 21 hH1 ?_
     try simp only[Act.put,zsA,zsB,zsC]
     refine tK 11 22 hH1 ?_
     try simp only[Act.put,zsA,zsB,zsC]
     refine tK 12 23 hH1 ?_
     try simp only[Act.put,zsA,zsB,zsC]
     refine tK 13 24 hH1 ?_
     try simp only[Act.put,zsA,zsB,zsC]
     refine tK 14 25 hH1 ?_
     try simp only[Act.put,zsA,zsB,zsC]
     refine tU 15 26 hH1 ?_
     try simp only[Act.put,zsA,zsB,zsC]
     refine tU 16 27 hH1 ?_
     try simp only[Act.put,zsA,zsB,zsC]
     refine tU 17 28 hH1 ?_
     try simp only[Act.put,zsA,zsB,zsC]
     refine tU 18 29 hH1 ?_
     try simp only[Act.put,zsA,zsB,zsC]
     refine tU 19 30 hH1 ?_
     try simp only[Act.put,zsA,zsB,zsC]
     refine tU 20 31 hH1 ?_
     try simp only[Act.put,zsA,zsB,zsC]
     refine tU 21 32 hH1 ?_
     try simp only[Act.put,zsA,zsB,zsC]
     refine tU 22 33 hH1 ?_
     try simp only[Act.put,zsA,zsB,zsC]
     refine tU 23 34 hH1 ?_
     try simp only[Act.put,zsA,zsB,zsC]
     refine tU 24 35 hH1 ?_
     try simp only[Act.put,zsA,zsB,zsC]
     refine tU 25 36 hH1 ?_
     try simp only[Act.put,zsA,zsB,zsC]
     refine tK 26 37 hH1 ?_
     try simp only[Act.put,zsA,zsB,zsC]
     refine tK 27 38 hH1 ?_
     try simp only[Act.put,zsA,zsB,zsC]
     refine tU 28 39 hH1 ?_
     try simp only[Act.put,zsA,zsB,zsC]
     refine tU 29 40 hH1 ?_
     try simp only[Act.put,zsA,zsB,zsC]
     refine tU 30 41 hH1 ?_
     try simp only[Act.put,zsA,zsB,zsC]
     refine tU 31 42 hH1 ?_
     try simp only[Act.put,zsA,zsB,zsC]
     refine tU 32 43 hH1 ?_
     try simp only[Act.put,zsA,zsB,zsC]
     refine tU 33 44 hH1 ?_
     try simp only[Act.put,zsA,zsB,zsC]
     refine tU 34 45 hH1 ?_
     try simp only[Act.put,zsA,zsB,zsC]
     refine tU 35 46 hH1 ?_
     try simp only[Act.put,zsA,zsB,zsC]
     refine tU 36 47 hH1 ?_
     try simp only[Act.put,zsA,zsB,zsC]
     refine tU 37 48 hH1 ?_
     try simp only[Act.put,zsA,zsB,zsC]
     refine tU 38 49 hH1 ?_
     try simp only[Act.put,zsA,zsB,zsC]
     refine tK 39 50 hH1 ?_
     try simp only[Act.put,zsA,zsB,zsC]
     refine wpAnyH_done (by kernel_rfl) ?_ _
     go_wp2_with fail
     go_roundw
     case rel=>exact⟨i+1,by omega,by go_num,HG2,hH1.2.2⟩
     case measure=>simp[intOf];omega
   ·obtain⟨r,hr⟩:∃ r,ckN e=r:=⟨_,rfl⟩
    have HG2:Hid ((f.off,f.ln) ∉ pairN (l.take (i+1))):=Lib.hid (by
     rw[HT.out,if_neg (fun h=>h0 h.1),List.append_nil]
     exact HG.out)
    rw[hr] at HK h0
    have hne:(r == 0)=false:=by simpa using h0
    clear h0 hr HT HSub HG
    go_upto_region 4 with fail
    refine wp_region_held_drew (S:=fun w'=>(w'.cell? ⟨g,off+i*4,none⟩=some (.int .u64 e.id)∧w'.cell? ⟨g,off+i*4+1,none⟩=some (.int .u64 e.off)∧w'.cell? ⟨g,off+i*4+2,none⟩=some (.int .u32 e.ln)∧w'.cell? ⟨g,off+i*4+3,none⟩=some (.int .u32 e.rn))∧(w'.cell? ⟨g,off+k*4,none⟩=some (.int .u64 f.id)∧w'.cell? ⟨g,off+k*4+1,none⟩=some (.int .u64 f.off)∧w'.cell? ⟨g,off+k*4+2,none⟩=some (.int .u32 f.ln)∧w'.cell? ⟨g,off+k*4+3,none⟩=some (.int .u32 f.rn))∧Below w.heap.size w w') (by kernel_rfl) HS0 (fun hH0=>?_)
    refine tK 0 11 hH0 ?_
    try simp only[Act.put,zsA,zsB,zsC]
    refine tK 1 12 hH0 ?_
    try simp only[Act.put,zsA,zsB,zsC]
    refine tK 2 13 hH0 ?_
    try simp only[Act.put,zsA,zsB,zsC]
    refine tK 3 14 hH0 ?_
    try simp only[Act.put,zsA,zsB,zsC]
    refine wpAnyH_ready (rs:=[4]) (by kernel_rfl) (by simp) ?_
    refine AllReadyH.cons rfl (fun K hK=>?_) AllReadyH.nil
    go_simp
    refine(HK.out _).mono ?_
    rintro e w' ⟨rfl,hb⟩
    go_wp2_with fail
    refine hK.out _ _ (keep2E hb hH0) (fun hH1=>?_)
    clear hK K hb hH0
    try simp only[Act.put,zsA,zsB,zsC]
    refine tK 5 16 hH1 ?_
    try simp only[Act.put,zsA,zsB,zsC]
    refine tK 6 17 hH1 ?_
    try simp only[Act.put,zsA,zsB,zsC]
    refine tU 7 18 hH1 ?_
    try simp only[Act.put,zsA,zsB,zsC]
    refine tU 8 19 hH1 ?_
    try simp only[Act.put,zsA,zsB,zsC]
    refine tU 9 20 hH1 ?_
    try simp only[Act.put,zsA,zsB,zsC]
    refine tU 10 21 hH1 ?_
    try simp only[Act.put,zsA,zsB,zsC]
    refine tU 11 22 hH1 ?_
    try simp only[Act.put,zsA,zsB,zsC]
    refine tU 12 23 hH1 ?_
    try simp only[Act.put,zsA,zsB,zsC]
    refine tK 13 24 hH1 ?_
    try simp only[Act.put,zsA,zsB,zsC]
    refine tK 14 25 hH1 ?_
    try simp only[Act.put,zsA,zsB,zsC]
    refine tU 15 26 hH1 ?_
    try simp only[Act.put,zsA,zsB,zsC]
    refine tU 16 27 hH1 ?_
    try simp only[Act.put,zsA,zsB,zsC]
    refine tU 17 28 hH1 ?_
    try simp only[Act.put,zsA,zsB,zsC]
    refine tU 18 29 hH1 ?_
    try simp only[Act.put,zsA,zsB,zsC]
    refine tU 19 30 hH1 ?_
    try simp only[Act.put,zsA,zsB,zsC]
    refine tU 20 31 hH1 ?_
    try simp only[Act.put,zsA,zsB,zsC]
    refine tU 21 32 hH1 ?_
    try simp only[Act.put,zsA,zsB,zsC]
    refine tU 22 33 hH1 ?_
    try simp only[Act.put,zsA,zsB,zsC]
    refine tU 23 34 hH1 ?_
    try simp only[Act.put,zsA,zsB,zsC]
    refine tU 24 35 hH1 ?_
    try simp only[Act.put,zsA,zsB,zsC]
    refine tU 25 36 hH1 ?_
    try simp only[Act.put,zsA,zsB,zsC]
    refine tK 26 37 hH1 ?_
    try simp only[Act.put,zsA,zsB,zsC]
    refine tK 27 38 hH1 ?_
    try simp only[Act.put,zsA,zsB,zsC]
    refine tU 28 39 hH1 ?_
    try simp only[Act.put,zsA,zsB,zsC]
    refine tU 29 40 hH1 ?_
    try simp only[Act.put,zsA,zsB,zsC]
    refine tU 30 41 hH1 ?_
    try simp only[Act.put,zsA,zsB,zsC]
    refine tU 31 42 hH1 ?_
    try simp only[Act.put,zsA,zsB,zsC]
    refine tU 32 43 hH1 ?_
    try simp only[Act.put,zsA,zsB,zsC]
    refine tU 33 44 hH1 ?_
    try simp only[Act.put,zsA,zsB,zsC]
    refine tU 34 45 hH1 ?_
    try simp only[Act.put,zsA,zsB,zsC]
    refine tU 35 46 hH1 ?_
    try simp only[Act.put,zsA,zsB,zsC]
    refine tU 36 47 hH1 ?_
    try simp only[Act.put,zsA,zsB,zsC]
    refine tU 37 48 hH1 ?_
    try simp only[Act.put,zsA,zsB,zsC]
    refine tU 38 49 hH1 ?_
    try simp only[Act.put,zsA,zsB,zsC]
    refine tK 39 50 hH1 ?_
    try simp only[Act.put,zsA,zsB,zsC]
    refine wpAnyH_done (by kernel_rfl) ?_ _
    go_wp2_with fail
    go_roundw
    case rel=>exact⟨i+1,by omega,by go_num,HG2,hH1.2.2⟩
    case measure=>simp[intOf];omega
  ·obtain rfl:i=k:=by omega
   have hR:R=true:=by rw[← HR.out,decide_eq_true_iff];exact HG.out
   subst hR
   have hik:decide ((i:Int)<(i:Int))=false:=by simp
   clear HG HR
   go_wp2_with fail
   go_ret
   exact⟨rfl,hbw⟩
end Go.Proofs.YtdnmgpcfgcidbaaGreatDoor
