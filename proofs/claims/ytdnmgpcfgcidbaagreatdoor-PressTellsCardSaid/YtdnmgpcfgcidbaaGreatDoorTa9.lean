/- aEd aPa. -/
import Derived.Test.YtdnmgpcfgcidbaaGreatDoorTa7
import Derived.Test.YtdnmgpcfgcidbaaGreatDoorTs
namespace Go.Proofs.YtdnmgpcfgcidbaaGreatDoor
set_option linter.unusedVariables false
set_option linter.unusedSimpArgs false
open Go.RowKit
set_option maxRecDepth 20000
set_option maxRecDepth 20000 in
set_option maxHeartbeats 1000000 in
theorem rrowN_any (v:Value) (l:List En) (w:World) (hv:EnsAt w v l) (hm:MaysN l):Calls Tryz.prog 93 #[v] w fun x w'=>x=.returned (.int .i64 (rowN l))∧Below w.heap.size w w':=by
 obtain⟨al,cap,rfl,hcap,_,hc⟩:=hv
 have HC:=Lib.hid hc
 have HM:=Lib.hid hm
 obtain⟨R,hR⟩:∃ R,rowN l=R:=⟨_,rfl⟩
 rw[hR]
 clear hc hm
 by_cases h4:4096<l.length
 ·have hR2:R=21:=by rw[← hR,rowN,if_pos h4]
  subst hR2
  have hd:decide (4096<(l.length:Int))=true:=by simp;omega
  clear hR
  go_enter Tryz.func93,Tryz.ntmps93
  go_wp2_with fail
  go_ret
  exact⟨rfl,by go_grown⟩
 have hR2:rowG (-1) l=R:=by rw[← hR,rowN,if_neg h4]
 have HR:=Lib.hid hR2
 have hd:decide (4096<(l.length:Int))=false:=by simp;omega
 clear hR hR2
 go_enter Tryz.func93,Tryz.ntmps93
 go_wp2_with fail
 go_loopw [3] (fun s wr=>∃ i:Nat,i≤l.length∧s=.int .i64 i∧Hid (rowG (-1) (l.take i)=0)∧Below w.heap.size w wr) (fun s _=>l.length - (intOf s).toNat)
 case atStart=>exact⟨0,Nat.zero_le _,rfl,Lib.hid rfl,Below.refl _ _⟩
 case round =>
  obtain⟨i,hi,rfl,HG,hbw⟩:=hrel
  by_cases hlt:i<l.length
  ·obtain⟨e,he⟩:∃ t,l[i]?=some t:=⟨_,List.getElem?_eq_getElem hlt⟩
   obtain⟨g,off,rfl,hg,l0,l1,l2,l3⟩:=HC.out i e he
   have hme:=HM.out e (List.mem_of_getElem? he)
   have HK:=Lib.hid (fun W=>rcheckN_any e W hme)
   have HAt:=Lib.hid (rowG_at l i e he HG.out)
   have hi2:(i:Int)<(l.length:Int):=by omega
   have hcl:=keep1E (Below.refl _ _) ⟨cells4 hbw ⟨l0,l1,l2,l3⟩,hbw⟩
   have HE:Hid (¬ e.id≤-1):=Lib.hid (by have:=hme.1;omega)
   clear he hme l0 l1 l2 l3 hbw HG
   unfold eC at HK
   by_cases h0:ckN e=0
   ·rw[h0] at HK
    have HCL:=Lib.hid hcl
    obtain⟨⟨k0,k1,k2,k3⟩,hbw⟩:=hcl
    clear hbw
    by_cases hz:i=0
    ·have hdz:decide (0<(i:Int))=false:=by simp;omega
     have hdn:decide (0<i)=false:=by simp;omega
     have HZ:=Lib.hid hz
     clear hz
     go_wp2_with fail
     refine(HK.out _).mono ?_
     rintro x w1 ⟨rfl,hb⟩
     have HS0:=keep1E (Below.drew (Below.refl _ _)) (keep1E hb HCL.out)
     clear hb k0 k1 k2 k3 HCL
     go_upto_region 9 with fail
     refine wp_region_held_drew (S:=fun w'=>(w'.cell? ⟨g,off+i*4,none⟩=some (.int .u64 e.id)∧w'.cell? ⟨g,off+i*4+1,none⟩=some (.int .u64 e.off)∧w'.cell? ⟨g,off+i*4+2,none⟩=some (.int .u32 e.ln)∧w'.cell? ⟨g,off+i*4+3,none⟩=some (.int .u32 e.rn))∧Below w.heap.size w w') (by kernel_rfl) HS0 (fun hH0=>?_)
     refine tK 0 22 hH0 ?_
     try simp only[Act.put,zsA,zsB,zsC]
     refine tK 1 23 hH0 ?_
     try simp only[Act.put,zsA,zsB,zsC]
     refine tK 2 24 hH0 ?_
     try simp only[Act.put,zsA,zsB,zsC]
     refine tU 3 25 hH0 ?_
     try simp only[Act.put,zsA,zsB,zsC]
     refine tU 4 26 hH0 ?_
     try simp only[Act.put,zsA,zsB,zsC]
     refine tU 5 27 hH0 ?_
     try simp only[Act.put,zsA,zsB,zsC]
     refine tU 6 28 hH0 ?_
     try simp only[Act.put,zsA,zsB,zsC]
     refine tU 7 29 hH0 ?_
     try simp only[Act.put,zsA,zsB,zsC]
     refine tU 8 30 hH0 ?_
     try simp only[Act.put,zsA,zsB,zsC]
     refine tU 9 31 hH0 ?_
     try simp only[Act.put,zsA,zsB,zsC]
     refine tU 10 32 hH0 ?_
     try simp only[Act.put,zsA,zsB,zsC]
     refine tU 11 33 hH0 ?_
     try simp only[Act.put,zsA,zsB,zsC]
     refine tU 12 34 hH0 ?_
     try simp only[Act.put,zsA,zsB,zsC]
     refine tU 13 35 hH0 ?_
     try simp only[Act.put,zsA,zsB,zsC]
     refine tU 14 36 hH0 ?_
     try simp only[Act.put,zsA,zsB,zsC]
     refine tK 15 37 hH0 ?_
     try simp only[Act.put,zsA,zsB,zsC]
     refine wpAnyH_done (by kernel_rfl) ?_ _
     go_wp2_with fail
     go_roundw
     case rel =>
      refine⟨i+1,by omega,by go_num,Lib.hid (HAt.out.2 h0 ?_),hH0.2⟩
      unfold prvN
      rw[if_pos HZ.out]
      exact HE.out
     case measure=>simp[intOf];omega
    ·obtain⟨j,rfl⟩:∃ j,i=j+1:=⟨i - 1,by omega⟩
     obtain⟨f,hf⟩:∃ t,l[j]?=some t:=⟨_,List.getElem?_eq_getElem (by omega)⟩
     have hpv:prvN l (j+1)=laN f:=by
      unfold prvN
      rw[if_neg (by omega),Nat.add_sub_cancel,List.getD_eq_getElem?_getD,hf]
      rfl
     rw[hpv] at HAt
     obtain⟨g',off',ha,hg',f0,f1,f2,f3⟩:=HC.out j f hf
     obtain⟨rfl,rfl⟩:g=g'∧off=off':=by simpa using ha
     have hmf:=HM.out f (List.mem_of_getElem? hf)
     have HLF:=Lib.hid (fun W=>rlastN_any f W hmf)
     unfold eC at HLF
     have HCL2:=Lib.hid (keep2E (Below.refl _ _) ⟨HCL.out.1,cells4 (HCL.out.2) ⟨f0,f1,f2,f3⟩,HCL.out.2⟩)
     have hij:((j+1:Nat):Int) - 1=(j:Int):=by omega
     have hwj:IntKind.i64.wrap (j:Int)=(j:Int):=by rw[IntKind.wrap_i64] <;> omega
     have hj2:(j:Int)<(l.length:Int):=by omega
     have hj0:(0:Int)≤(j:Int):=by omega
     generalize hgi:j+1=i at *
     have hdz:decide (0<(i:Int))=true:=by simp;omega
     have hdn:decide (0<i)=true:=by simp;omega
     obtain⟨q,hq⟩:∃ q,laN f=q:=⟨_,rfl⟩
     rw[hq] at HAt HLF
     clear hq hf f0 f1 f2 f3 hpv hz hmf
     by_cases hle:e.id≤q
     ·have hR:R=10:=by rw[← HR.out,HAt.out.1,if_neg (fun h=>h h0),if_pos hle]
      subst hR
      have hdl:decide (e.id≤q)=true:=by simpa using hle
      clear hle HAt
      go_wp2_with fail
      refine(HK.out _).mono ?_
      rintro x w1 ⟨rfl,hb⟩
      have HS0:=keep2E (Below.drew (Below.refl _ _)) (keep2E hb HCL2.out)
      clear hb k0 k1 k2 k3 HCL HCL2
      go_upto_region 9 with fail
      refine wp_region_held_drew (S:=fun w'=>(w'.cell? ⟨g,off+i*4,none⟩=some (.int .u64 e.id)∧w'.cell? ⟨g,off+i*4+1,none⟩=some (.int .u64 e.off)∧w'.cell? ⟨g,off+i*4+2,none⟩=some (.int .u32 e.ln)∧w'.cell? ⟨g,off+i*4+3,none⟩=some (.int .u32 e.rn))∧(w'.cell? ⟨g,off+j*4,none⟩=some (.int .u64 f.id)∧w'.cell? ⟨g,off+j*4+1,none⟩=some (.int .u64 f.off)∧w'.cell? ⟨g,off+j*4+2,none⟩=some (.int .u32 f.ln)∧w'.cell? ⟨g,off+j*4+3,none⟩=some (.int .u32 f.rn))∧Below w.heap.size w w') (by kernel_rfl) HS0 (fun hH0=>?_)
      refine tK 0 22 hH0 ?_
      try simp only[Act.put,zsA,zsB,zsC]
      refine tK 1 23 hH0 ?_
      try simp only[Act.put,zsA,zsB,zsC]
      refine tK 2 24 hH0 ?_
      try simp only[Act.put,zsA,zsB,zsC]
      refine tK 3 25 hH0 ?_
      try simp only[Act.put,zsA,zsB,zsC]
      refine tK 4 26 hH0 ?_
      try simp only[Act.put,zsA,zsB,zsC]
      refine tK 5 27 hH0 ?_
      try simp only[Act.put,zsA,zsB,zsC]
      refine tK 6 28 hH0 ?_
      try simp only[Act.put,zsA,zsB,zsC]
      refine tK 7 29 hH0 ?_
      try simp only[Act.put,zsA,zsB,zsC]
      refine tK 8 30 hH0 ?_
      try simp only[Act.put,zsA,zsB,zsC]
      refine tK 9 31 hH0 ?_
      try simp only[Act.put,zsA,zsB,zsC]
      refine tK 10 32 hH0 ?_
      try simp only[Act.put,zsA,zsB,zsC]
      refine tK 11 33 hH0 ?_
      try simp only[Act.put,zsA,zsB,zsC]
      refine tK 12 34 hH0 ?_
      try simp only[Act.put,zsA,zsB,zsC]
      refine wpAnyH_ready (rs:=[13]) (by kernel_rfl) (by simp) ?_
      refine AllReadyH.cons rfl (fun K hK=>?_) AllReadyH.nil
      go_simp
      refine(HLF.out _).mono ?_
      rintro e w' ⟨rfl,hb⟩
      go_wp2_with fail
      refine hK.out _ _ (keep2E hb hH0) (fun hH1=>?_)
      clear hK K hb hH0
      try simp only[Act.put,zsA,zsB,zsC]
      refine tK 14 36 hH1 ?_
      try simp only[Act.put,zsA,zsB,zsC]
      refine tK 15 37 hH1 ?_
      try simp only[Act.put,zsA,zsB,zsC]
      refine wpAnyH_done (by kernel_rfl) ?_ _
      go_wp2_with fail
      go_ret
      exact⟨rfl,hH1.2.2⟩
     ·have hdl:decide (e.id≤q)=false:=by simpa using hle
      have HG2:=Lib.hid (HAt.out.2 h0 hle)
      clear hle HAt
      go_wp2_with fail
      refine(HK.out _).mono ?_
      rintro x w1 ⟨rfl,hb⟩
      have HS0:=keep2E (Below.drew (Below.refl _ _)) (keep2E hb HCL2.out)
      clear hb k0 k1 k2 k3 HCL HCL2
      go_upto_region 9 with fail
      refine wp_region_held_drew (S:=fun w'=>(w'.cell? ⟨g,off+i*4,none⟩=some (.int .u64 e.id)∧w'.cell? ⟨g,off+i*4+1,none⟩=some (.int .u64 e.off)∧w'.cell? ⟨g,off+i*4+2,none⟩=some (.int .u32 e.ln)∧w'.cell? ⟨g,off+i*4+3,none⟩=some (.int .u32 e.rn))∧(w'.cell? ⟨g,off+j*4,none⟩=some (.int .u64 f.id)∧w'.cell? ⟨g,off+j*4+1,none⟩=some (.int .u64 f.off)∧w'.cell? ⟨g,off+j*4+2,none⟩=some (.int .u32 f.ln)∧w'.cell? ⟨g,off+j*4+3,none⟩=some (.int .u32 f.rn))∧Below w.heap.size w w') (by kernel_rfl) HS0 (fun hH0=>?_)
      refine tK 0 22 hH0 ?_
      try simp only[Act.put,zsA,zsB,zsC]
      refine tK 1 23 hH0 ?_
      try simp only[Act.put,zsA,zsB,zsC]
      refine tK 2 24 hH0 ?_
      try simp only[Act.put,zsA,zsB,zsC]
      refine tK 3 25 hH0 ?_
      try simp only[Act.put,zsA,zsB,zsC]
      refine tK 4 26 hH0 ?_
      try simp only[Act.put,zsA,zsB,zsC]
      refine tK 5 27 hH0 ?_
      try simp only[Act.put,zsA,zsB,zsC]
      refine tK 6 28 hH0 ?_
      try simp only[Act.put,zsA,zsB,zsC]
      refine tK 7 29 hH0 ?_
      try simp only[Act.put,zsA,zsB,zsC]
      refine tK 8 30 hH0 ?_
      try simp only[Act.put,zsA,zsB,zsC]
      refine tK 9 31 hH0 ?_
      try simp only[Act.put,zsA,zsB,zsC]
      refine tK 10 32 hH0 ?_
      try simp only[Act.put,zsA,zsB,zsC]
      refine tK 11 33 hH0 ?_
      try simp only[Act.put,zsA,zsB,zsC]
      refine tK 12 34 hH0 ?_
      try simp only[Act.put,zsA,zsB,zsC]
      refine wpAnyH_ready (rs:=[13]) (by kernel_rfl) (by simp) ?_
      refine AllReadyH.cons rfl (fun K hK=>?_) AllReadyH.nil
      go_simp
      refine(HLF.out _).mono ?_
      rintro e w' ⟨rfl,hb⟩
      go_wp2_with fail
      refine hK.out _ _ (keep2E hb hH0) (fun hH1=>?_)
      clear hK K hb hH0
      try simp only[Act.put,zsA,zsB,zsC]
      refine tK 14 36 hH1 ?_
      try simp only[Act.put,zsA,zsB,zsC]
      refine tK 15 37 hH1 ?_
      try simp only[Act.put,zsA,zsB,zsC]
      refine wpAnyH_done (by kernel_rfl) ?_ _
      go_wp2_with fail
      go_roundw
      case rel=>exact⟨i+1,by omega,by go_num,HG2,hH1.2.2⟩
      case measure=>simp[intOf];omega
   ·have hR:R=ckN e:=by rw[← HR.out,HAt.out.1,if_pos h0]
    obtain⟨r,hr⟩:∃ r,ckN e=r:=⟨_,rfl⟩
    rw[hr] at HK h0 hR
    subst hR
    have hne:(R != 0)=true:=by simp only[bne_iff_ne,ne_eq];exact h0
    clear h0 hr HAt HR
    have HCL:=Lib.hid hcl.2
    obtain⟨⟨k0,k1,k2,k3⟩,hbw⟩:=hcl
    clear hbw
    go_wp2_with fail
    refine(HK.out _).mono ?_
    rintro x w1 ⟨rfl,hb⟩
    have hb1:=Lib.hid (HCL.out.trans (hb.mono HCL.out.size))
    clear hb k0 k1 k2 k3 HCL
    go_wp2_with fail
    go_ret
    exact⟨rfl,hb1.out⟩
  ·obtain rfl:i=l.length:=by omega
   have hG:=HG.out
   rw[List.take_length] at hG
   have hR:R=0:=HR.out.symm.trans hG
   subst hR
   clear hG HG HR
   go_wp2_with fail
   go_ret
   exact⟨rfl,hbw⟩
theorem pptr_any (e:En) (w:World):Calls Tryz.prog 155 #[.agg (eC e)] w fun x w'=>x=.returned (.bool (decide (e.rn=0)))∧Below w.heap.size w w':=by
 obtain⟨i,o,l,r⟩:=e
 unfold eC
 dsimp only
 have hd:(r == 0)=decide (r=0):=by rw[Bool.eq_iff_iff];simp
 go_enter Tryz.func155,Tryz.ntmps155
 go_wp2_with fail
 go_ret
 exact⟨ret_b (by first|exact hd|rfl|simp),by go_grown⟩
theorem pwide_any (e:En) (w:World) (hm:MayN e):Calls Tryz.prog 189 #[.agg (eC e)] w fun x w'=>x=.returned (.int .u64 (wdN e))∧Below w.heap.size w w':=by
 have HP:=Lib.hid (fun W=>pptr_any e W)
 have H0:=EAt.made w e 124
 have HB:Below w.heap.size w (w.alloc (.cells (eC e) 124)):=(Below.refl _ _).alloc (Nat.le_refl _) _
 obtain⟨m0,m1,m2,m3⟩:=hm
 unfold eC at HB HP ⊢
 obtain⟨c0,c1,c2,c3⟩:=H0
 unfold eC at c0 c1 c2 c3
 by_cases h:e.rn=0
 ·have hw:Hid (wdN e=1):=Lib.hid (by unfold wdN;rw[if_pos h])
  have hd:decide (e.rn=0)=true:=by simpa using h
  rw[hd] at HP
  clear h hd
  go_enter Tryz.func189,Tryz.ntmps189
  go_wp2_with fail
  refine(HP.out _).mono ?_
  rintro x w1 ⟨rfl,hb⟩
  obtain⟨⟨k0,k1,k2,k3⟩,hU⟩:=keepE hb ⟨⟨c0,c1,c2,c3⟩,HB⟩
  have HU:=Lib.hid hU
  clear hb c0 c1 c2 c3 HB hU
  go_wp2_with fail
  go_ret
  exact⟨ret_u64 hw.out.symm,HU.out⟩
 ·have hw:Hid (wdN e=e.rn):=Lib.hid (by unfold wdN;rw[if_neg h])
  have hd:decide (e.rn=0)=false:=by simpa using h
  have hwr:IntKind.u64.wrap e.rn=e.rn:=by rw[IntKind.wrap_u64] <;> omega
  rw[hd] at HP
  clear h hd
  go_enter Tryz.func189,Tryz.ntmps189
  go_wp2_with fail
  refine(HP.out _).mono ?_
  rintro x w1 ⟨rfl,hb⟩
  obtain⟨⟨k0,k1,k2,k3⟩,hU⟩:=keepE hb ⟨⟨c0,c1,c2,c3⟩,HB⟩
  have HU:=Lib.hid hU
  clear hb c0 c1 c2 c3 HB hU
  go_wp2_with fail
  go_ret
  exact⟨ret_u64 hw.out.symm,HU.out⟩
set_option maxRecDepth 20000 in
set_option maxHeartbeats 1000000 in
theorem pcheck_any (e:En) (w:World) (hm:MayN e):Calls Tryz.prog 119 #[.agg (eC e)] w fun x w'=>x=.returned (.int .i64 (ckN e))∧Below w.heap.size w w':=by
 have HW:=Lib.hid (fun W=>pwide_any e W hm)
 obtain⟨m0,m1,m2,m3⟩:=hm
 have H0:=EAt.made w e 124
 have HB:Below w.heap.size w (w.alloc (.cells (eC e) 124)):=(Below.refl _ _).alloc (Nat.le_refl _) _
 have HS0:=keepE (Below.drew (Below.refl _ _)) ⟨H0,HB⟩
 have hck:Hid (ckN e=if e.ln=0 then 2 else if cnN≤e.id∨cnN<e.id+wdN e then 8 else if 1099511627776<e.off∨1099511627776<e.off+e.ln then 8 else 0):=Lib.hid rfl
 have hwd:=wd_pos e m3.1
 have hwu:wdN e≤4294967295:=by unfold wdN;split <;> omega
 obtain⟨R,hR⟩:∃ R,ckN e=R:=⟨_,rfl⟩
 rw[hR] at hck ⊢
 clear hR
 obtain⟨d,hd⟩:∃ d,wdN e=d:=⟨_,rfl⟩
 rw[hd] at HW hck hwd hwu
 clear hd
 unfold cnN at hck
 by_cases h1:e.ln=0
 ·have hR:R=2:=by rw[hck.out,if_pos h1]
  subst hR
  have hl:(e.ln == 0)=true:=by simpa using h1
  clear HW HS0 hck
  unfold eC at HB ⊢
  go_enter Tryz.func119,Tryz.ntmps119
  go_wp2_with fail
  go_ret
  exact⟨rfl,by go_grown⟩
 have hl:(e.ln == 0)=false:=by simpa using h1
 rw[if_neg h1] at hck
 have hw:IntKind.u64.wrap (6004799503160661 - d)=6004799503160661 - d:=by rw[IntKind.wrap_u64] <;> omega
 have hwl:IntKind.u64.wrap e.ln=e.ln:=by rw[IntKind.wrap_u64] <;> omega
 have hwo:IntKind.u64.wrap (1099511627776 - e.ln)=1099511627776 - e.ln:=by rw[IntKind.wrap_u64] <;> omega
 by_cases h2:6004799503160661 - d<e.id
 ·have hR:R=8:=by rw[hck.out,if_pos (.inr (by omega))]
  subst hR
  have hi:decide (6004799503160661 - d<e.id)=true:=by simpa using h2
  clear hck
  unfold eC at HB HS0 HW ⊢
  go_enter Tryz.func119,Tryz.ntmps119
  go_upto_region 3 with fail
  refine wp_region_held_drew (S:=fun w'=>(w'.cell? ⟨w.heap.size,0,none⟩=some (.int .u64 e.id)∧w'.cell? ⟨w.heap.size,1,none⟩=some (.int .u64 e.off)∧w'.cell? ⟨w.heap.size,2,none⟩=some (.int .u32 e.ln)∧w'.cell? ⟨w.heap.size,3,none⟩=some (.int .u32 e.rn))∧Below w.heap.size w w') (by kernel_rfl) HS0 (fun hH0=>?_)
  refine tK 0 6 hH0 ?_
  try simp only[Act.put,zsA,zsB,zsC]
  refine tK 1 7 hH0 ?_
  try simp only[Act.put,zsA,zsB,zsC]
  refine tK 2 8 hH0 ?_
  try simp only[Act.put,zsA,zsB,zsC]
  refine wpAnyH_ready (rs:=[3]) (by kernel_rfl) (by simp) ?_
  refine AllReadyH.cons rfl (fun K hK=>?_) AllReadyH.nil
  go_simp
  refine(HW.out _).mono ?_
  rintro e w' ⟨rfl,hb⟩
  go_wp2_with fail
  refine hK.out _ _ (keepE hb hH0) (fun hH1=>?_)
  clear hK K hb hH0
  try simp only[Act.put,zsA,zsB,zsC]
  refine tK 4 10 hH1 ?_
  try simp only[Act.put,zsA,zsB,zsC]
  refine tK 5 11 hH1 ?_
  try simp only[Act.put,zsA,zsB,zsC]
  refine tK 6 12 hH1 ?_
  try simp only[Act.put,zsA,zsB,zsC]
  refine tU 7 13 hH1 ?_
  try simp only[Act.put,zsA,zsB,zsC]
  refine tU 8 14 hH1 ?_
  try simp only[Act.put,zsA,zsB,zsC]
  refine tU 9 15 hH1 ?_
  try simp only[Act.put,zsA,zsB,zsC]
  refine tU 10 16 hH1 ?_
  try simp only[Act.put,zsA,zsB,zsC]
  refine tU 11 17 hH1 ?_
  try simp only[Act.put,zsA,zsB,zsC]
  refine tU 12 18 hH1 ?_
  try simp only[Act.put,zsA,zsB,zsC]
  refine tU 13 19 hH1 ?_
  try simp only[Act.put,zsA,zsB,zsC]
  refine tK 14 20 hH1 ?_
  try simp only[Act.put,zsA,zsB,zsC]
  refine wpAnyH_done (by kernel_rfl) ?_ _
  go_wp2_with fail
  go_ret
  exact⟨rfl,hH1.2⟩
 have hi:decide (6004799503160661 - d<e.id)=false:=by simpa using h2
 rw[if_neg (by omega)] at hck
 by_cases h4:1099511627776 - e.ln<e.off
 ·have hR:R=8:=by rw[hck.out,if_pos (.inr (by omega))]
  subst hR
  have hk:decide (1099511627776 - e.ln<e.off)=true:=by simpa using h4
  clear hck
  unfold eC at HB HS0 HW ⊢
  go_enter Tryz.func119,Tryz.ntmps119
  go_upto_region 3 with fail
  refine wp_region_held_drew (S:=fun w'=>(w'.cell? ⟨w.heap.size,0,none⟩=some (.int .u64 e.id)∧w'.cell? ⟨w.heap.size,1,none⟩=some (.int .u64 e.off)∧w'.cell? ⟨w.heap.size,2,none⟩=some (.int .u32 e.ln)∧w'.cell? ⟨w.heap.size,3,none⟩=some (.int .u32 e.rn))∧Below w.heap.size w w') (by kernel_rfl) HS0 (fun hH0=>?_)
  refine tK 0 6 hH0 ?_
  try simp only[Act.put,zsA,zsB,zsC]
  refine tK 1 7 hH0 ?_
  try simp only[Act.put,zsA,zsB,zsC]
  refine tK 2 8 hH0 ?_
  try simp only[Act.put,zsA,zsB,zsC]
  refine wpAnyH_ready (rs:=[3]) (by kernel_rfl) (by simp) ?_
  refine AllReadyH.cons rfl (fun K hK=>?_) AllReadyH.nil
  go_simp
  refine(HW.out _).mono ?_
  rintro e w' ⟨rfl,hb⟩
  go_wp2_with fail
  refine hK.out _ _ (keepE hb hH0) (fun hH1=>?_)
  clear hK K hb hH0
  try simp only[Act.put,zsA,zsB,zsC]
  refine tK 4 10 hH1 ?_
  try simp only[Act.put,zsA,zsB,zsC]
  refine tK 5 11 hH1 ?_
  try simp only[Act.put,zsA,zsB,zsC]
  refine tK 6 12 hH1 ?_
  try simp only[Act.put,zsA,zsB,zsC]
  refine tK 7 13 hH1 ?_
  try simp only[Act.put,zsA,zsB,zsC]
  refine tK 8 14 hH1 ?_
  try simp only[Act.put,zsA,zsB,zsC]
  refine tK 9 15 hH1 ?_
  try simp only[Act.put,zsA,zsB,zsC]
  refine tK 10 16 hH1 ?_
  try simp only[Act.put,zsA,zsB,zsC]
  refine tK 11 17 hH1 ?_
  try simp only[Act.put,zsA,zsB,zsC]
  refine tK 12 18 hH1 ?_
  try simp only[Act.put,zsA,zsB,zsC]
  refine tK 13 19 hH1 ?_
  try simp only[Act.put,zsA,zsB,zsC]
  refine tK 14 20 hH1 ?_
  try simp only[Act.put,zsA,zsB,zsC]
  refine wpAnyH_done (by kernel_rfl) ?_ _
  obtain⟨⟨c0,c1,c2,c3⟩,hU⟩:=hH1
  have HU:=Lib.hid hU
  clear hU
  go_wp2_with fail
  go_ret
  exact⟨rfl,HU.out⟩
 ·have hR:R=0:=by rw[hck.out,if_neg (by omega)]
  subst hR
  have hk:decide (1099511627776 - e.ln<e.off)=false:=by simpa using h4
  clear hck
  unfold eC at HB HS0 HW ⊢
  go_enter Tryz.func119,Tryz.ntmps119
  go_upto_region 3 with fail
  refine wp_region_held_drew (S:=fun w'=>(w'.cell? ⟨w.heap.size,0,none⟩=some (.int .u64 e.id)∧w'.cell? ⟨w.heap.size,1,none⟩=some (.int .u64 e.off)∧w'.cell? ⟨w.heap.size,2,none⟩=some (.int .u32 e.ln)∧w'.cell? ⟨w.heap.size,3,none⟩=some (.int .u32 e.rn))∧Below w.heap.size w w') (by kernel_rfl) HS0 (fun hH0=>?_)
  refine tK 0 6 hH0 ?_
  try simp only[Act.put,zsA,zsB,zsC]
  refine tK 1 7 hH0 ?_
  try simp only[Act.put,zsA,zsB,zsC]
  refine tK 2 8 hH0 ?_
  try simp only[Act.put,zsA,zsB,zsC]
  refine wpAnyH_ready (rs:=[3]) (by kernel_rfl) (by simp) ?_
  refine AllReadyH.cons rfl (fun K hK=>?_) AllReadyH.nil
  go_simp
  refine(HW.out _).mono ?_
  rintro e w' ⟨rfl,hb⟩
  go_wp2_with fail
  refine hK.out _ _ (keepE hb hH0) (fun hH1=>?_)
  clear hK K hb hH0
  try simp only[Act.put,zsA,zsB,zsC]
  refine tK 4 10 hH1 ?_
  try simp only[Act.put,zsA,zsB,zsC]
  refine tK 5 11 hH1 ?_
  try simp only[Act.put,zsA,zsB,zsC]
  refine tK 6 12 hH1 ?_
  try simp only[Act.put,zsA,zsB,zsC]
  refine tK 7 13 hH1 ?_
  try simp only[Act.put,zsA,zsB,zsC]
  refine tK 8 14 hH1 ?_
  try simp only[Act.put,zsA,zsB,zsC]
  refine tK 9 15 hH1 ?_
  try simp only[Act.put,zsA,zsB,zsC]
  refine tK 10 16 hH1 ?_
  try simp only[Act.put,zsA,zsB,zsC]
  refine tK 11 17 hH1 ?_
  try simp only[Act.put,zsA,zsB,zsC]
  refine tK 12 18 hH1 ?_
  try simp only[Act.put,zsA,zsB,zsC]
  refine tK 13 19 hH1 ?_
  try simp only[Act.put,zsA,zsB,zsC]
  refine tK 14 20 hH1 ?_
  try simp only[Act.put,zsA,zsB,zsC]
  refine wpAnyH_done (by kernel_rfl) ?_ _
  obtain⟨⟨c0,c1,c2,c3⟩,hU⟩:=hH1
  have HU:=Lib.hid hU
  clear hU
  go_wp2_with fail
  go_ret
  exact⟨rfl,HU.out⟩
set_option maxRecDepth 20000 in
set_option maxHeartbeats 1000000 in
theorem plast_any (e:En) (w:World) (hm:MayN e):Calls Tryz.prog 120 #[.agg (eC e)] w fun x w'=>x=.returned (.int .u64 (laN e))∧Below w.heap.size w w':=by
 have HW:=Lib.hid (fun W=>pwide_any e W hm)
 have HC:=Lib.hid (fun W=>pcheck_any e W hm)
 have H0:=EAt.made w e 124
 have HB:Below w.heap.size w (w.alloc (.cells (eC e) 124)):=(Below.refl _ _).alloc (Nat.le_refl _) _
 have hwd:=wd_pos e hm.2.2.2.1
 by_cases h0:ckN e=0
 ·have hb:=ck_ok e h0
  have hi:=hm.1
  have hw1:IntKind.u64.wrap (e.id+wdN e)=e.id+wdN e:=by rw[IntKind.wrap_u64] <;> omega
  have hw2:IntKind.u64.wrap (e.id+wdN e - 1)=e.id+wdN e - 1:=by rw[IntKind.wrap_u64] <;> omega
  have hla:Hid (e.id+wdN e - 1=laN e):=Lib.hid (by unfold laN;rw[if_pos h0])
  rw[h0] at HC
  obtain⟨d,hd⟩:∃ d,wdN e=d:=⟨_,rfl⟩
  rw[hd] at HW hw1 hw2 hla
  clear hd h0 hb hm hwd
  unfold eC at HB HC HW ⊢
  obtain⟨c0,c1,c2,c3⟩:=H0
  unfold eC at c0 c1 c2 c3
  go_enter Tryz.func120,Tryz.ntmps120
  go_wp2_with fail
  refine(HC.out _).mono ?_
  rintro x w1 ⟨rfl,hb⟩
  have HS1:=keepE hb ⟨⟨c0,c1,c2,c3⟩,HB⟩
  have HS0:=keepE (Below.drew (Below.refl _ _)) HS1
  clear hb c0 c1 c2 c3 HB HS1
  go_upto_region 3 with fail
  refine wp_region_held_drew (S:=fun w'=>(w'.cell? ⟨w.heap.size,0,none⟩=some (.int .u64 e.id)∧w'.cell? ⟨w.heap.size,1,none⟩=some (.int .u64 e.off)∧w'.cell? ⟨w.heap.size,2,none⟩=some (.int .u32 e.ln)∧w'.cell? ⟨w.heap.size,3,none⟩=some (.int .u32 e.rn))∧Below w.heap.size w w') (by kernel_rfl) HS0 (fun hH0=>?_)
  refine tK 0 6 hH0 ?_
  try simp only[Act.put,zsA,zsB,zsC]
  refine tK 1 7 hH0 ?_
  try simp only[Act.put,zsA,zsB,zsC]
  refine tK 2 8 hH0 ?_
  try simp only[Act.put,zsA,zsB,zsC]
  refine wpAnyH_ready (rs:=[3]) (by kernel_rfl) (by simp) ?_
  refine AllReadyH.cons rfl (fun K hK=>?_) AllReadyH.nil
  go_simp
  refine(HW.out _).mono ?_
  rintro e w' ⟨rfl,hb⟩
  go_wp2_with fail
  refine hK.out _ _ (keepE hb hH0) (fun hH1=>?_)
  clear hK K hb hH0
  try simp only[Act.put,zsA,zsB,zsC]
  refine tK 4 10 hH1 ?_
  try simp only[Act.put,zsA,zsB,zsC]
  refine tK 5 11 hH1 ?_
  try simp only[Act.put,zsA,zsB,zsC]
  refine tK 6 2 hH1 ?_
  try simp only[Act.put,zsA,zsB,zsC]
  refine wpAnyH_done (by kernel_rfl) ?_ _
  go_wp2_with fail
  go_ret
  exact⟨ret_u64 hla.out,hH1.2⟩
 ·have hla:laN e=0:=by unfold laN;rw[if_neg h0]
  rw[hla]
  obtain⟨r,hr⟩:∃ r,ckN e=r:=⟨_,rfl⟩
  rw[hr] at HC h0
  have hne:(r != 0)=true:=by simp only[bne_iff_ne,ne_eq];exact h0
  clear hr h0 hm hla hwd HW
  unfold eC at HB HC ⊢
  obtain⟨c0,c1,c2,c3⟩:=H0
  unfold eC at c0 c1 c2 c3
  go_enter Tryz.func120,Tryz.ntmps120
  go_wp2_with fail
  refine(HC.out _).mono ?_
  rintro x w1 ⟨rfl,hb⟩
  have HS1:=keepE hb ⟨⟨c0,c1,c2,c3⟩,HB⟩
  have HU:=Lib.hid HS1.2
  clear hb c0 c1 c2 c3 HB HS1
  go_wp2_with fail
  go_ret
  exact⟨rfl,HU.out⟩
end Go.Proofs.YtdnmgpcfgcidbaaGreatDoor
