/- aVa aVb aGa aGb. -/
import Derived.Test.YtjinnigjfopbcaaGreatDoorJa4
import Derived.Test.YtjinnigjfopbcaaGreatDoorJs
set_option maxHeartbeats 16000000
namespace Go.Proofs.YtjinnigjfopbcaaGreatDoor
set_option linter.unusedVariables false
set_option linter.unusedSimpArgs false
open Go.RowKit
set_option maxRecDepth 20000
theorem xrB (e:En) (w:World):Calls Tryz.prog 204 #[.agg (eC e)] w fun x w'=>x=.returned (.bool (decide (e.rn=0)))∧Below w.heap.size w w':=by
 obtain⟨i,o,l,r⟩:=e
 unfold eC
 dsimp only
 have hd:(r == 0)=decide (r=0):=by rw[Bool.eq_iff_iff];simp
 go_enter Tryz.func204,Tryz.ntmps204
 go_wp2_with fail
 go_ret
 exact⟨xin (by first|exact hd|rfl|simp),by go_grown⟩
def xo4 (e:En) (n d:Nat):Int:=if e.rn=0 then 14 else if (d:Int)<e.off+e.ln then 8 else if 2048<(n:Int)+e.rn then 21 else if 65536<e.ln then 5 else 0
theorem xlJ (e:En) (n:Nat) (d:ByteArray) (w:World) (hm:xaO e) (hc:e.off+e.ln≤9223372036854775807) (hn:n≤1000000) (hd:d.size≤1000000000) :
  Calls Tryz.prog 125 #[.agg (eC e),.int .i64 n,.string d] w fun x w'=>x=.returned (.int .i64 (xo4 e n d.size))∧Below w.heap.size w w':=by
 have HP:=lH (fun W=>xrB e W)
 have H0:=EAt.made w e 74
 have HB:Below w.heap.size w (w.alloc (.cells (eC e) 74)):=(Below.refl _ _).alloc (Nat.le_refl _) _
 obtain⟨m0,m1,m2,m3⟩:=hm
 unfold eC at HB HP ⊢
 obtain⟨c0,c1,c2,c3⟩:=H0
 unfold eC at c0 c1 c2 c3
 have hw1:IntKind.u64.wrap e.rn=e.rn:=by rw[IntKind.wrap_u64];omega
 have hw2:IntKind.u64.wrap ((n:Int)+e.rn)=(n:Int)+e.rn:=by rw[IntKind.wrap_u64];omega
 have hw3:IntKind.u64.wrap e.ln=e.ln:=by rw[IntKind.wrap_u64];omega
 have hw4:IntKind.u64.wrap (e.off+e.ln)=e.off+e.ln:=by rw[IntKind.wrap_u64];omega
 have hw5:IntKind.u64.wrap (d.size:Int)=(d.size:Int):=by rw[IntKind.wrap_u64];omega
 have hw6:IntKind.u64.wrap (n:Int)=(n:Int):=by rw[IntKind.wrap_u64];omega
 have HR:Hid (xo4 e n d.size=if e.rn=0 then 14 else if (d.size:Int)<e.off+e.ln then 8 else if 2048<(n:Int)+e.rn then 21 else if 65536<e.ln then 5 else 0):=lH rfl
 generalize xo4 e n d.size=R at *
 by_cases h1:e.rn=0
 ·have HRR:=lH (HR.out.trans (if_pos h1))
  have hd1:decide (e.rn=0)=true:=by simpa using h1
  rw[hd1] at HP
  clear h1 hd1 HR
  go_enter Tryz.func125,Tryz.ntmps125
  go_wp2_with fail
  refine(HP.out _).mono ?_
  rintro x w1 ⟨rfl,hb⟩
  have HU:=lH (xbF hb ⟨⟨c0,c1,c2,c3⟩,HB⟩).2
  clear hb c0 c1 c2 c3 HB
  go_wp2_with fail
  go_ret
  exact⟨by rw[HRR.out];rfl,HU.out⟩
 have hd1:decide (e.rn=0)=false:=by simpa using h1
 rw[hd1] at HP
 have HR2:=lH (HR.out.trans (if_neg h1))
 clear HR hd1
 by_cases h2:(d.size:Int)<e.off+e.ln
 ·have HRR:=lH (HR2.out.trans (if_pos h2))
  clear HR2 h1
  go_enter Tryz.func125,Tryz.ntmps125
  go_wp2_with fail
  refine(HP.out _).mono ?_
  rintro x w1 ⟨rfl,hb⟩
  obtain⟨⟨k0,k1,k2,k3⟩,hU⟩:=xbF hb ⟨⟨c0,c1,c2,c3⟩,HB⟩
  have HU:=lH hU
  clear hb c0 c1 c2 c3 HB hU
  go_wp2_with fail
  go_ret
  exact⟨by rw[HRR.out];rfl,HU.out⟩
 have HR3:=lH (HR2.out.trans (if_neg h2))
 clear HR2
 by_cases h3:2048<(n:Int)+e.rn
 ·have HRR:=lH (HR3.out.trans (if_pos h3))
  clear HR3 h1
  go_enter Tryz.func125,Tryz.ntmps125
  go_wp2_with fail
  refine(HP.out _).mono ?_
  rintro x w1 ⟨rfl,hb⟩
  obtain⟨⟨k0,k1,k2,k3⟩,hU⟩:=xbF hb ⟨⟨c0,c1,c2,c3⟩,HB⟩
  have HU:=lH hU
  clear hb c0 c1 c2 c3 HB hU
  go_wp2_with fail
  go_ret
  exact⟨by rw[HRR.out];rfl,HU.out⟩
 have HR4:=lH (HR3.out.trans (if_neg h3))
 clear HR3
 by_cases h4:65536<e.ln
 ·have HRR:=lH (HR4.out.trans (if_pos h4))
  clear HR4 h1
  go_enter Tryz.func125,Tryz.ntmps125
  go_wp2_with fail
  refine(HP.out _).mono ?_
  rintro x w1 ⟨rfl,hb⟩
  obtain⟨⟨k0,k1,k2,k3⟩,hU⟩:=xbF hb ⟨⟨c0,c1,c2,c3⟩,HB⟩
  have HU:=lH hU
  clear hb c0 c1 c2 c3 HB hU
  go_wp2_with fail
  go_ret
  exact⟨by rw[HRR.out];rfl,HU.out⟩
 have HRR:=lH (HR4.out.trans (if_neg h4))
 clear HR4 h1
 go_enter Tryz.func125,Tryz.ntmps125
 go_wp2_with fail
 refine(HP.out _).mono ?_
 rintro x w1 ⟨rfl,hb⟩
 obtain⟨⟨k0,k1,k2,k3⟩,hU⟩:=xbF hb ⟨⟨c0,c1,c2,c3⟩,HB⟩
 have HU:=lH hU
 clear hb c0 c1 c2 c3 HB hU
 go_wp2_with fail
 go_ret
 exact⟨by rw[HRR.out];rfl,HU.out⟩
theorem xq8 (e a:En) (w:World) (he:xaO e) (ha:xaO a):Calls Tryz.prog 132 #[.agg (eC e),.agg (eC a)] w fun x w'=>x=.returned (.bool (xlY a e))∧Below w.heap.size w w':=by
 have HL:=lH (fun W=>xfB a W ha)
 have hla:0≤laN a∧laN a≤6004799503160660:=by
  by_cases h:ckN a=0
  ·have:=xi5 a ha h
   unfold xaO at ha
   omega
  ·unfold laN
   rw[if_neg h]
   omega
 have HR:Hid (xlY a e=decide (e.id=laN a+1∧a.off=e.off∧a.ln=e.ln)):=lH rfl
 generalize xlY a e=R at *
 generalize laN a=la at *
 have hw:IntKind.u64.wrap (la+1)=la+1:=by rw[IntKind.wrap_u64];omega
 have hea:=EAt.made w e 233
 have heb:=EAt.made (w.alloc (.cells (eC e) 233)) a 233
 have hea2:=hea.later (w':=(w.alloc (.cells (eC e) 233)).alloc (.cells (eC a) 233)) ((Below.refl _ _).alloc (Nat.le_refl _) _)
 have hbw:Below w.heap.size w ((w.alloc (.cells (eC e) 233)).alloc (.cells (eC a) 233)):=((Below.refl _ _).alloc (Nat.le_refl _) _).alloc (by simp) _
 simp only[World.size_alloc] at heb
 unfold eC at HL hea2 heb hbw ⊢
 obtain⟨W,hW⟩:∃ W,(w.alloc (.cells #[.int .u64 e.id,.int .u64 e.off,.int .u32 e.ln,.int .u32 e.rn] 233)).alloc (.cells #[.int .u64 a.id,.int .u64 a.off,.int .u32 a.ln,.int .u32 a.rn] 233)=W:=⟨_,rfl⟩
 rw[hW] at hea2 heb hbw
 have HK:Hid (∀ w',Below W.heap.size W w'→((w'.cell? ⟨w.heap.size,0,none⟩=some (.int .u64 e.id)∧w'.cell? ⟨w.heap.size,1,none⟩=some (.int .u64 e.off)∧w'.cell? ⟨w.heap.size,2,none⟩=some (.int .u32 e.ln)∧w'.cell? ⟨w.heap.size,3,none⟩=some (.int .u32 e.rn))∧(w'.cell? ⟨w.heap.size+1,0,none⟩=some (.int .u64 a.id)∧w'.cell? ⟨w.heap.size+1,1,none⟩=some (.int .u64 a.off)∧w'.cell? ⟨w.heap.size+1,2,none⟩=some (.int .u32 a.ln)∧w'.cell? ⟨w.heap.size+1,3,none⟩=some (.int .u32 a.rn)))∧Below W.heap.size W w'):=lH (fun w' h=>⟨⟨hea2.later h,heb.later h⟩,h⟩)
 have HB:=lH hbw
 clear hea hea2 heb hbw he ha hla
 by_cases d1:e.id=la+1
 ·by_cases d2:e.off=a.off
  ·by_cases d3:e.ln=a.ln
   ·have HRR:Hid (R=true):=lH (by rw[HR.out,decide_eq_true_iff];exact⟨d1,d2.symm,d3.symm⟩)
    have e1:(e.id == la+1)=true:=by simpa using d1
    have e2:(e.off == a.off)=true:=by simpa using d2
    have e3:(e.ln == a.ln)=true:=by simpa using d3
    clear HR d1 d2 d3
    go_enter Tryz.func132,Tryz.ntmps132
    go_wp2_with fail
    refine wp_region_held_drew (S:=fun w'=>((w'.cell? ⟨w.heap.size,0,none⟩=some (.int .u64 e.id)∧w'.cell? ⟨w.heap.size,1,none⟩=some (.int .u64 e.off)∧w'.cell? ⟨w.heap.size,2,none⟩=some (.int .u32 e.ln)∧w'.cell? ⟨w.heap.size,3,none⟩=some (.int .u32 e.rn))∧(w'.cell? ⟨w.heap.size+1,0,none⟩=some (.int .u64 a.id)∧w'.cell? ⟨w.heap.size+1,1,none⟩=some (.int .u64 a.off)∧w'.cell? ⟨w.heap.size+1,2,none⟩=some (.int .u32 a.ln)∧w'.cell? ⟨w.heap.size+1,3,none⟩=some (.int .u32 a.rn)))∧Below W.heap.size W w') (by kernel_rfl) (HK.out _ (Below.drew (Below.refl _ _))) (fun hH0=>?_)
    refine tK 0 5 hH0 ?_
    refine tK 1 6 hH0 ?_
    refine tK 2 7 hH0 ?_
    refine wpAnyH_ready (rs:=[3]) (by kernel_rfl) (by simp) ?_
    refine AllReadyH.cons rfl (fun K hK=>?_) AllReadyH.nil
    go_simp
    refine(HL.out _).mono ?_
    rintro e w' ⟨rfl,hb⟩
    go_wp2_with fail
    refine hK.out _ _ (HK.out _ (hH0.2.trans (hb.mono hH0.2.size))) (fun hH1=>?_)
    clear hK K hb hH0
    try simp only[Act.put,zsA,zsB,zsC]
    refine tK 4 9 hH1 ?_
    refine tK 5 10 hH1 ?_
    refine tK 6 11 hH1 ?_
    refine tK 7 12 hH1 ?_
    refine tK 8 13 hH1 ?_
    refine tK 9 14 hH1 ?_
    refine tK 10 15 hH1 ?_
    refine tK 11 16 hH1 ?_
    refine tK 12 17 hH1 ?_
    refine tK 13 18 hH1 ?_
    refine tK 14 19 hH1 ?_
    refine tK 15 20 hH1 ?_
    refine tK 16 21 hH1 ?_
    refine tK 17 22 hH1 ?_
    refine tK 18 23 hH1 ?_
    refine tK 19 24 hH1 ?_
    refine tK 20 4 hH1 ?_
    refine wpAnyH_done (by kernel_rfl) ?_ _
    go_wp2_with fail
    go_ret
    exact⟨by rw[HRR.out];first|rfl|simp[*],HB.out.trans (hH1.2.mono HB.out.size)⟩
   ·have HRR:Hid (R=false):=lH (by rw[HR.out,decide_eq_false_iff_not];exact fun h=>d3 h.2.2.symm)
    have e1:(e.id == la+1)=true:=by simpa using d1
    have e2:(e.off == a.off)=true:=by simpa using d2
    have e3:(e.ln == a.ln)=false:=by simpa using d3
    clear HR d1 d2 d3
    go_enter Tryz.func132,Tryz.ntmps132
    go_wp2_with fail
    refine wp_region_held_drew (S:=fun w'=>((w'.cell? ⟨w.heap.size,0,none⟩=some (.int .u64 e.id)∧w'.cell? ⟨w.heap.size,1,none⟩=some (.int .u64 e.off)∧w'.cell? ⟨w.heap.size,2,none⟩=some (.int .u32 e.ln)∧w'.cell? ⟨w.heap.size,3,none⟩=some (.int .u32 e.rn))∧(w'.cell? ⟨w.heap.size+1,0,none⟩=some (.int .u64 a.id)∧w'.cell? ⟨w.heap.size+1,1,none⟩=some (.int .u64 a.off)∧w'.cell? ⟨w.heap.size+1,2,none⟩=some (.int .u32 a.ln)∧w'.cell? ⟨w.heap.size+1,3,none⟩=some (.int .u32 a.rn)))∧Below W.heap.size W w') (by kernel_rfl) (HK.out _ (Below.drew (Below.refl _ _))) (fun hH0=>?_)
    refine tK 0 5 hH0 ?_
    refine tK 1 6 hH0 ?_
    refine tK 2 7 hH0 ?_
    refine wpAnyH_ready (rs:=[3]) (by kernel_rfl) (by simp) ?_
    refine AllReadyH.cons rfl (fun K hK=>?_) AllReadyH.nil
    go_simp
    refine(HL.out _).mono ?_
    rintro e w' ⟨rfl,hb⟩
    go_wp2_with fail
    refine hK.out _ _ (HK.out _ (hH0.2.trans (hb.mono hH0.2.size))) (fun hH1=>?_)
    clear hK K hb hH0
    try simp only[Act.put,zsA,zsB,zsC]
    refine tK 4 9 hH1 ?_
    refine tK 5 10 hH1 ?_
    refine tK 6 11 hH1 ?_
    refine tK 7 12 hH1 ?_
    refine tK 8 13 hH1 ?_
    refine tK 9 14 hH1 ?_
    refine tK 10 15 hH1 ?_
    refine tK 11 16 hH1 ?_
    refine tK 12 17 hH1 ?_
    refine tK 13 18 hH1 ?_
    refine tK 14 19 hH1 ?_
    refine tK 15 20 hH1 ?_
    refine tK 16 21 hH1 ?_
    refine tK 17 22 hH1 ?_
    refine tK 18 23 hH1 ?_
    refine tK 19 24 hH1 ?_
    refine tK 20 4 hH1 ?_
    refine wpAnyH_done (by kernel_rfl) ?_ _
    go_wp2_with fail
    go_ret
    exact⟨by rw[HRR.out];first|rfl|simp[*],HB.out.trans (hH1.2.mono HB.out.size)⟩
  ·have HRR:Hid (R=false):=lH (by rw[HR.out,decide_eq_false_iff_not];exact fun h=>d2 h.2.1.symm)
   have e1:(e.id == la+1)=true:=by simpa using d1
   have e2:(e.off == a.off)=false:=by simpa using d2
   clear HR d1 d2
   go_enter Tryz.func132,Tryz.ntmps132
   go_wp2_with fail
   refine wp_region_held_drew (S:=fun w'=>((w'.cell? ⟨w.heap.size,0,none⟩=some (.int .u64 e.id)∧w'.cell? ⟨w.heap.size,1,none⟩=some (.int .u64 e.off)∧w'.cell? ⟨w.heap.size,2,none⟩=some (.int .u32 e.ln)∧w'.cell? ⟨w.heap.size,3,none⟩=some (.int .u32 e.rn))∧(w'.cell? ⟨w.heap.size+1,0,none⟩=some (.int .u64 a.id)∧w'.cell? ⟨w.heap.size+1,1,none⟩=some (.int .u64 a.off)∧w'.cell? ⟨w.heap.size+1,2,none⟩=some (.int .u32 a.ln)∧w'.cell? ⟨w.heap.size+1,3,none⟩=some (.int .u32 a.rn)))∧Below W.heap.size W w') (by kernel_rfl) (HK.out _ (Below.drew (Below.refl _ _))) (fun hH0=>?_)
   refine tK 0 5 hH0 ?_
   refine tK 1 6 hH0 ?_
   refine tK 2 7 hH0 ?_
   refine wpAnyH_ready (rs:=[3]) (by kernel_rfl) (by simp) ?_
   refine AllReadyH.cons rfl (fun K hK=>?_) AllReadyH.nil
   go_simp
   refine(HL.out _).mono ?_
   rintro e w' ⟨rfl,hb⟩
   go_wp2_with fail
   refine hK.out _ _ (HK.out _ (hH0.2.trans (hb.mono hH0.2.size))) (fun hH1=>?_)
   clear hK K hb hH0
   try simp only[Act.put,zsA,zsB,zsC]
   refine tK 4 9 hH1 ?_
   refine tK 5 10 hH1 ?_
   refine tK 6 11 hH1 ?_
   refine tK 7 12 hH1 ?_
   refine tK 8 13 hH1 ?_
   refine tK 9 14 hH1 ?_
   refine tK 10 15 hH1 ?_
   refine tK 11 16 hH1 ?_
   refine tK 12 17 hH1 ?_
   refine tK 13 18 hH1 ?_
   refine tU 14 19 hH1 ?_
   refine tU 15 20 hH1 ?_
   refine tU 16 21 hH1 ?_
   refine tU 17 22 hH1 ?_
   refine tU 18 23 hH1 ?_
   refine tK 19 24 hH1 ?_
   refine tK 20 4 hH1 ?_
   refine wpAnyH_done (by kernel_rfl) ?_ _
   go_wp2_with fail
   go_ret
   exact⟨by rw[HRR.out];first|rfl|simp[*],HB.out.trans (hH1.2.mono HB.out.size)⟩
 ·have HRR:Hid (R=false):=lH (by rw[HR.out,decide_eq_false_iff_not];exact fun h=>d1 h.1)
  have e1:(e.id == la+1)=false:=by simpa using d1
  clear HR d1
  go_enter Tryz.func132,Tryz.ntmps132
  go_wp2_with fail
  refine wp_region_held_drew (S:=fun w'=>((w'.cell? ⟨w.heap.size,0,none⟩=some (.int .u64 e.id)∧w'.cell? ⟨w.heap.size,1,none⟩=some (.int .u64 e.off)∧w'.cell? ⟨w.heap.size,2,none⟩=some (.int .u32 e.ln)∧w'.cell? ⟨w.heap.size,3,none⟩=some (.int .u32 e.rn))∧(w'.cell? ⟨w.heap.size+1,0,none⟩=some (.int .u64 a.id)∧w'.cell? ⟨w.heap.size+1,1,none⟩=some (.int .u64 a.off)∧w'.cell? ⟨w.heap.size+1,2,none⟩=some (.int .u32 a.ln)∧w'.cell? ⟨w.heap.size+1,3,none⟩=some (.int .u32 a.rn)))∧Below W.heap.size W w') (by kernel_rfl) (HK.out _ (Below.drew (Below.refl _ _))) (fun hH0=>?_)
  refine tK 0 5 hH0 ?_
  refine tK 1 6 hH0 ?_
  refine tK 2 7 hH0 ?_
  refine wpAnyH_ready (rs:=[3]) (by kernel_rfl) (by simp) ?_
  refine AllReadyH.cons rfl (fun K hK=>?_) AllReadyH.nil
  go_simp
  refine(HL.out _).mono ?_
  rintro e w' ⟨rfl,hb⟩
  go_wp2_with fail
  refine hK.out _ _ (HK.out _ (hH0.2.trans (hb.mono hH0.2.size))) (fun hH1=>?_)
  clear hK K hb hH0
  try simp only[Act.put,zsA,zsB,zsC]
  refine tK 4 9 hH1 ?_
  refine tK 5 10 hH1 ?_
  refine tK 6 11 hH1 ?_
  refine tU 7 12 hH1 ?_
  refine tU 8 13 hH1 ?_
  refine tU 9 14 hH1 ?_
  refine tU 10 15 hH1 ?_
  refine tU 11 16 hH1 ?_
  refine tK 12 17 hH1 ?_
  refine tK 13 18 hH1 ?_
  refine tU 14 19 hH1 ?_
  refine tU 15 20 hH1 ?_
  refine tU 16 21 hH1 ?_
  refine tU 17 22 hH1 ?_
  refine tU 18 23 hH1 ?_
  refine tK 19 24 hH1 ?_
  refine tK 20 4 hH1 ?_
  refine wpAnyH_done (by kernel_rfl) ?_ _
  go_wp2_with fail
  go_ret
  exact⟨by rw[HRR.out];first|rfl|simp[*],HB.out.trans (hH1.2.mono HB.out.size)⟩
theorem xof (v:Value) (l:List En) (e:En) (w:World) (hv:xak w v l) (hm:xay l) (he:xaO e):Calls Tryz.prog 131 #[v,.agg (eC e),.func (.func 132) #[] #[]] w fun x w'=>x=.returned (.bool (xdq l e))∧Below w.heap.size w w':=by
 have hbw:Below w.heap.size w (w.alloc (.cells (eC e) 74)):=(Below.refl _ _).alloc (Nat.le_refl _) _
 have hea:=EAt.made w e 74
 have hv2:=hv.below hbw
 rcases List.eq_nil_or_concat l with rfl|⟨r,a,rfl⟩
 ·obtain⟨a0,c0,rfl,-⟩:=hv
  have HR:Hid (xdq [] e=false):=lH rfl
  have hz:IntKind.i64.wrap ((0:Int) - 1)=-1:=by rw[IntKind.wrap_i64];omega
  rw[List.length_nil]
  unfold eC at hbw hea ⊢
  obtain⟨W,hW⟩:∃ W,(w.alloc (.cells #[.int .u64 e.id,.int .u64 e.off,.int .u32 e.ln,.int .u32 e.rn] 74))=W:=⟨_,rfl⟩
  rw[hW] at hea hbw
  have HK:Hid (∀ w',Below W.heap.size W w'→(w'.cell? ⟨w.heap.size,0,none⟩=some (.int .u64 e.id)∧w'.cell? ⟨w.heap.size,1,none⟩=some (.int .u64 e.off)∧w'.cell? ⟨w.heap.size,2,none⟩=some (.int .u32 e.ln)∧w'.cell? ⟨w.heap.size,3,none⟩=some (.int .u32 e.rn))∧Below W.heap.size W w'):=lH (fun w' h=>⟨hea.later h,h⟩)
  have HB:=lH hbw
  clear hea hbw hv2 he hm
  go_enter Tryz.func131,Tryz.ntmps131
  go_wp2_with fail
  refine wp_region_held_drew (S:=fun w'=>(w'.cell? ⟨w.heap.size,0,none⟩=some (.int .u64 e.id)∧w'.cell? ⟨w.heap.size,1,none⟩=some (.int .u64 e.off)∧w'.cell? ⟨w.heap.size,2,none⟩=some (.int .u32 e.ln)∧w'.cell? ⟨w.heap.size,3,none⟩=some (.int .u32 e.rn))∧Below W.heap.size W w') (by kernel_rfl) (HK.out _ (Below.drew (Below.refl _ _))) (fun hH0=>?_)
  refine tK 0 11 hH0 ?_
  refine tK 1 12 hH0 ?_
  refine tK 2 13 hH0 ?_
  refine tU 3 14 hH0 ?_
  refine tU 4 15 hH0 ?_
  refine tU 5 16 hH0 ?_
  refine tU 6 17 hH0 ?_
  refine tU 7 18 hH0 ?_
  refine tU 8 19 hH0 ?_
  refine tU 9 20 hH0 ?_
  refine tK 10 21 hH0 ?_
  refine tK 11 6 hH0 ?_
  refine wpAnyH_done (by kernel_rfl) ?_ _
  go_wp2_with fail
  go_ret
  exact⟨by rw[HR.out];rfl,HB.out.trans (hH0.2.mono HB.out.size)⟩
 ·rw[List.concat_eq_append] at *
  have HR:=lH (xb7 r a e)
  obtain⟨g,off,cap,rfl,hle,hg,hc⟩:=xfX hv r.length (by simp)
  have hmx:r.length+1≤maxLen:=by
   obtain⟨a',c',e',h1,h2,_⟩:=hv
   rw[List.length_append,List.length_singleton] at h1
   omega
  have hlt:(r++[a]).length=r.length+1:=by simp
  rw[hlt] at *
  have hca:=hc r.length a (by simp)
  have hG:=fun W=>xq8 e a W he (hm a (by simp))
  have HCA:=lH (fun X (hX:Below w.heap.size w X)=>xdI hX hca)
  unfold maxLen at hmx
  have hi1:IntKind.i64.wrap ((r.length:Int)+1 - 1)=(r.length:Int):=by rw[IntKind.wrap_i64];omega
  have hi2:IntKind.i64.wrap (r.length:Int)=(r.length:Int):=by rw[IntKind.wrap_i64];omega
  have hi3:(r.length:Int)<(r.length:Int)+1:=by omega
  have hi4:(0:Int)≤(r.length:Int):=by omega
  unfold eC at hbw hea hG ⊢
  have HG:=lH hG
  obtain⟨W,hW⟩:∃ W,(w.alloc (.cells #[.int .u64 e.id,.int .u64 e.off,.int .u32 e.ln,.int .u32 e.rn] 74))=W:=⟨_,rfl⟩
  rw[hW] at hea hbw
  have HK:Hid (∀ w',Below W.heap.size W w'→((w'.cell? ⟨w.heap.size,0,none⟩=some (.int .u64 e.id)∧w'.cell? ⟨w.heap.size,1,none⟩=some (.int .u64 e.off)∧w'.cell? ⟨w.heap.size,2,none⟩=some (.int .u32 e.ln)∧w'.cell? ⟨w.heap.size,3,none⟩=some (.int .u32 e.rn))∧(w'.cell? ⟨g,off+r.length*4,none⟩=some (.int .u64 a.id)∧w'.cell? ⟨g,off+r.length*4+1,none⟩=some (.int .u64 a.off)∧w'.cell? ⟨g,off+r.length*4+2,none⟩=some (.int .u32 a.ln)∧w'.cell? ⟨g,off+r.length*4+3,none⟩=some (.int .u32 a.rn)))∧Below W.heap.size W w'):=lH (fun w' h=>⟨⟨hea.later h,HCA.out w' (hbw.trans (h.mono hbw.size))⟩,h⟩)
  have HB:=lH hbw
  generalize xlY a e=R at *
  clear hea hbw hv2 hv he hm hG hc hca hlt
  generalize r.length=rl at *
  go_enter Tryz.func131,Tryz.ntmps131
  go_wp2_with fail
  refine wp_region_held_drew (S:=fun w'=>((w'.cell? ⟨w.heap.size,0,none⟩=some (.int .u64 e.id)∧w'.cell? ⟨w.heap.size,1,none⟩=some (.int .u64 e.off)∧w'.cell? ⟨w.heap.size,2,none⟩=some (.int .u32 e.ln)∧w'.cell? ⟨w.heap.size,3,none⟩=some (.int .u32 e.rn))∧(w'.cell? ⟨g,off+rl*4,none⟩=some (.int .u64 a.id)∧w'.cell? ⟨g,off+rl*4+1,none⟩=some (.int .u64 a.off)∧w'.cell? ⟨g,off+rl*4+2,none⟩=some (.int .u32 a.ln)∧w'.cell? ⟨g,off+rl*4+3,none⟩=some (.int .u32 a.rn)))∧Below W.heap.size W w') (by kernel_rfl) (HK.out _ (Below.drew (Below.refl _ _))) (fun hH0=>?_)
  refine tK 0 11 hH0 ?_
  refine tK 1 12 hH0 ?_
  refine tK 2 13 hH0 ?_
  refine tK 3 14 hH0 ?_
  refine tK 4 15 hH0 ?_
  refine tK 5 16 hH0 ?_
  refine tK 6 17 hH0 ?_
  refine tK 7 18 hH0 ?_
  refine tK 8 19 hH0 ?_
  refine wpAnyH_ready (rs:=[9]) (by kernel_rfl) (by simp) ?_
  refine AllReadyH.cons rfl (fun K hK=>?_) AllReadyH.nil
  go_simp
  refine(HG.out _).mono ?_
  rintro e w' ⟨rfl,hb⟩
  go_wp2_with fail
  refine hK.out _ _ (HK.out _ (hH0.2.trans (hb.mono hH0.2.size))) (fun hH1=>?_)
  clear hK K hb hH0
  try simp only[Act.put,zsA,zsB,zsC]
  refine tK 10 21 hH1 ?_
  refine tK 11 6 hH1 ?_
  refine wpAnyH_done (by kernel_rfl) ?_ _
  go_wp2_with fail
  go_ret
  exact⟨by rw[HR.out];rfl,HB.out.trans (hH1.2.mono HB.out.size)⟩
theorem xak.take {w:World} {l:List En} {g off cap:Nat} (h:xak w (.slice (some ⟨g,off,none⟩) l.length cap) l) (i:Nat) (hi:i≤l.length):xak w (.slice (some ⟨g,off,none⟩) i cap) (l.take i):=by
 obtain⟨a',c',e',h1,h2,hc⟩:=h
 cases e'
 refine⟨_,cap,by rw[List.length_take,Nat.min_eq_left hi],by rw[List.length_take];omega,h2,fun k t ht=>?_⟩
 refine hc k t ?_
 rw[List.getElem?_take] at ht
 split at ht
 ·exact ht
 ·cases ht
end Go.Proofs.YtjinnigjfopbcaaGreatDoor
namespace Go.Proofs.YtjinnigjfopbcaaGreatDoor
set_option linter.unusedVariables false
set_option linter.unusedSimpArgs false
abbrev Kt:=Nat × ByteArray
def plc:List ByteArray→Nat→List Kt
 | [],_=>[]
 | t :: l,n=>(n,t) :: plc l (n+t.size)
def bkt (s:ByteArray):Int:=xsI (xfQ fSt s.data.toList) 2048
theorem xhl (s:ByteArray):0≤bkt s∧bkt s<2048:=by
 unfold bkt xsI
 rw[if_neg (by omega)]
 omega
def grp (k:Int) (l:List Kt):List Kt:=l.filter (fun t=>decide (bkt t.2=k))
theorem xcO (l:List ByteArray):∀ n,(plc l n).length=l.length:=by
 induction l with
 | nil=>intro n;rfl
 | cons t l ih=>intro n;simp[plc,ih]
theorem xmg (a b:List ByteArray):∀ n,plc (a++b) n=plc a n++plc b (n+totF a):=by
 induction a with
 | nil=>intro n;simp[plc,totF]
 | cons t l ih=>intro n;simp[plc,ih,totF,Nat.add_assoc]
theorem xgt (l:List ByteArray) (s:ByteArray):plc (l++[s]) 0=plc l 0++[(totF l,s)]:=by
 rw[xmg];simp[plc]
theorem xvf (l:List ByteArray):∀ (n k:Nat) (t:ByteArray),l[k]?=some t→(plc l n)[k]?=some (n+totF (l.take k),t):=by
 induction l with
 | nil=>intro n k t h;simp at h
 | cons x l ih =>
  intro n k t h
  cases k with
  | zero=>simp at h;subst h;simp[plc,totF]
  | succ k=>rw[plc,List.getElem?_cons_succ,ih _ k t (by simpa using h)];simp[totF,Nat.add_assoc]
theorem xlT (k:Int) (a b:List Kt):grp k (a++b)=grp k a++grp k b:=by simp[grp]
theorem xub (k:Int) (t:Kt):grp k [t]=if bkt t.2=k then [t] else []:=by
 unfold grp
 by_cases h:bkt t.2=k <;> simp[h]
theorem xne (k:Int) (l:List Kt):(grp k l).length≤l.length:=List.length_filter_le _ _
theorem xj4 (s:ByteArray) (l:List ByteArray):∀ n,((grp (bkt s) (plc l n)).find? (fun t=>decide (t.2=s))).map (·.1)=xaN s l n:=by
 induction l with
 | nil=>intro n;rfl
 | cons t l ih =>
  intro n
  rw[plc,xaN]
  by_cases h:t=s
  ·subst h
   rw[if_pos rfl]
   simp[grp]
  ·rw[if_neg h,← ih]
   unfold grp
   by_cases hb:bkt t=bkt s
   ·rw[List.filter_cons_of_pos (by simpa using hb),List.find?_cons_of_neg (by simpa using h)]
   ·rw[List.filter_cons_of_neg (by simpa using hb)]
theorem xkV (p:Kt→Bool) (l:List Kt) (i:Nat) (t:Kt) (hi:l[i]?=some t) (hp:p t=true) (hn:∀ x ∈ l.take i,p x=false):l.find? p=some t:=by
 have e:l=l.take i++t :: l.drop (i+1):=by rw[← xuI l i t hi,List.take_append_drop]
 rw[e,List.find?_append]
 have h0:(l.take i).find? p=none:=by rw[List.find?_eq_none];intro x hx;rw[hn x hx];simp
 rw[h0]
 simp[hp]
theorem xuv (p:Kt→Bool) (l:List Kt) (hn:∀ x ∈ l,p x=false):l.find? p=none:=by
 rw[List.find?_eq_none];intro x hx;rw[hn x hx];simp
end Go.Proofs.YtjinnigjfopbcaaGreatDoor
namespace Go.Proofs.YtjinnigjfopbcaaGreatDoor
set_option linter.unusedVariables false
set_option linter.unusedSimpArgs false
open Go.RowKit
set_option maxRecDepth 20000
def ktC (t:Kt):List Value:=[.int .u64 t.1,.int .u32 t.2.size,.string t.2]
def xek:List Kt→List Value
 | []=>[]
 | t :: l=>.int .u64 t.1 :: .int .u32 t.2.size :: .string t.2 :: xek l
theorem xhn (a b:List Kt):xek (a++b)=xek a++xek b:=by
 induction a with
 | nil=>rfl
 | cons t l ih=>simp[xek,ih]
theorem xpL (l:List Kt):∀ (k:Nat) (t:Kt),l[k]?=some t→(xek l)[k*3]?=some (.int .u64 t.1)∧(xek l)[k*3+1]?=some (.int .u32 t.2.size)∧(xek l)[k*3+2]?=some (.string t.2):=by
 induction l with
 | nil=>intro k t h;simp at h
 | cons s l ih =>
  intro k t h
  cases k with
  | zero=>simp at h;subst h;simp[xek]
  | succ k =>
   have:=ih k t (by simpa using h)
   rw[show (k+1)*3=k*3+1+1+1 by omega]
   simpa[xek] using this
def xoj (w:World) (v:Value) (l:List Kt):Prop:=∃ a cap,v=.slice a l.length cap∧l.length≤cap∧cap≤maxLen∧∀ k t,l[k]?=some t→∃ g off,a=some ⟨g,off,none⟩∧g<w.heap.size∧w.cell? ⟨g,off+k*3,none⟩=some (.int .u64 t.1)∧w.cell? ⟨g,off+k*3+1,none⟩=some (.int .u32 t.2.size)∧w.cell? ⟨g,off+k*3+2,none⟩=some (.string t.2)
theorem xoj.below {w w':World} {v:Value} {l:List Kt} (h:xoj w v l) (hb:Below w.heap.size w w'):xoj w' v l:=by
 obtain⟨a,cap,rfl,h1,h2,hc⟩:=h
 refine⟨a,cap,rfl,h1,h2,fun k t ht=>?_⟩
 obtain⟨g,off,ha,hg,c0,c1,c2⟩:=hc k t ht
 exact⟨g,off,ha,Nat.lt_of_lt_of_le hg hb.size,xal hb c0,xal hb c1,xal hb c2⟩
def xcz (w:World) (B:Nat) (v:Value) (l:List Kt):Prop:=w.ownsRow B 328 3 v l.length (xek l)
theorem xkL (w:World) (B:Nat):xcz w B (.slice none 0 0) []:=World.ownsRow_nil _ _ _ _
theorem xcz.lt {w:World} {B:Nat} {v:Value} {l:List Kt} (h:xcz w B v l):∀ k,v.ownBlock=some k→B≤k∧k<w.heap.size:=World.ownsRow.lt h
theorem xcz.keep {w w':World} {B:Nat} {v:Value} {l:List Kt} (h:xcz w B v l) (hk:∀ k,v.ownBlock=some k→w'.heap[k]?=w.heap[k]?):xcz w' B v l:=by
 obtain⟨h1,h2⟩:=h
 refine⟨h1,?_⟩
 rcases h2 with h2|⟨g,cap,cur,hv,hg,hh,r⟩
 ·exact .inl h2
 ·refine .inr ⟨g,cap,cur,hv,hg,?_,r⟩
  rw[hk g (by rw[hv];rfl)];exact hh
theorem xcz.below {w w':World} {B:Nat} {v:Value} {l:List Kt} (h:xcz w B v l) (hb:Below w.heap.size w w'):xcz w' B v l :=
 h.keep (fun k hk=>hb.block k (h.lt k hk).2)
theorem xcz.mono {w:World} {B B':Nat} {v:Value} {l:List Kt} (h:xcz w B v l) (hb:B'≤B):xcz w B' v l:=by
 obtain⟨h1,h2⟩:=h
 refine⟨h1,?_⟩
 rcases h2 with h2|⟨g,cap,cur,hv,hg,r⟩
 ·exact .inl h2
 ·exact .inr ⟨g,cap,cur,hv,Nat.le_trans hb hg,r⟩
theorem xcz.cells {w:World} {B:Nat} {v:Value} {l:List Kt} (h:xcz w B v l) {g:Nat} (hg:v.ownBlock=some g):∃ cur T fz,w.heap[g]?=some (.cells cur T fz):=by
 rcases h.2 with ⟨rfl,_⟩|⟨g',cap,cur,rfl,_,hh,_⟩
 ·cases hg
 ·cases hg
  exact⟨_,_,_,hh⟩
theorem xcz.ktsAt {w:World} {B:Nat} {v:Value} {l:List Kt} (h:xcz w B v l):xoj w v l:=by
 have hlt:=h.lt
 have h':=h
 obtain⟨h1,h2⟩:=h
 rcases h2 with ⟨rfl,hn⟩|⟨g,cap,cur,rfl,hg,hh,hle,hm,_⟩
 ·obtain rfl:l=[]:=List.eq_nil_of_length_eq_zero hn
  exact⟨none,0,rfl,Nat.le_refl _,by simp,fun k t h=>by simp at h⟩
 ·refine⟨_,cap,rfl,hle,hm,fun k t ht=>⟨g,0,rfl,(hlt g rfl).2,?_⟩⟩
  have hk:=(List.getElem?_eq_some_iff.1 ht).1
  obtain⟨f0,f1,f2⟩:=xpL l k t ht
  rw[Nat.zero_add]
  exact⟨(World.ownsRow.cellAt h' (k*3) (by omega)).trans f0,(World.ownsRow.cellAt h' (k*3+1) (by omega)).trans f1,(World.ownsRow.cellAt h' (k*3+2) (by omega)).trans f2⟩
theorem xcz.slice {w:World} {B:Nat} {v:Value} {l:List Kt} (h:xcz w B v l):∃ a cap,v=.slice a l.length cap:=by
 obtain⟨a,cap,hv,_⟩:=h.ktsAt
 exact⟨a,cap,hv⟩
theorem xoG {w:World} {B:Nat} {v:Value} {n:Nat} {l:List Kt} {ys:List Value} (h:w.ownsRow B 328 3 v n ys) (hn:n=l.length) (he:ys=xek l):xcz w B v l:=by
 subst hn;subst he;exact h
theorem xv1:(Tryz.prog.info? 328).map (fun i=>(i.zero,i.size,i.bytes))=some (some (.agg #[.int .u64 0,.int .u32 0,.string { data:=#[] }]),3,32):=by kernel_rfl
def xde (w:World) (g:Nat) (t:Kt):Prop:=w.cell? ⟨g,0,none⟩=some (.int .u64 t.1)∧w.cell? ⟨g,1,none⟩=some (.int .u32 t.2.size)∧w.cell? ⟨g,2,none⟩=some (.string t.2)
theorem xde.lt {w:World} {g:Nat} {t:Kt} (h:xde w g t):g<w.heap.size:=xa3 h.1
theorem xde.below {w w':World} {g:Nat} {t:Kt} (h:xde w g t) (hb:Below w.heap.size w w'):xde w' g t:=⟨xal hb h.1,xal hb h.2.1,xal hb h.2.2⟩
theorem xdZ (w:World) (t:Kt) (T:TypeId):xde (w.alloc (.cells #[.int .u64 t.1,.int .u32 t.2.size,.string t.2] T)) w.heap.size t:=⟨by simp[go_sem],by simp[go_sem],by simp[go_sem]⟩
theorem xiR (W:World) (ty:TypeId) (v:Value) (L:List Kt) (t:Kt) (g c:Nat) (hown:xcz W 0 v L) (hx:xde W g t) (hl:L.length≤1000000) :
  ∃ v' w',(Builtin.append_ #[318,318] ty #[v,.slice (some ⟨g,0,none⟩) 1 c]).run Tryz.prog W=.ok v' w'∧xcz w' 0 v' (L++[t])∧W.grownBy w' v.ownBlock∧(v'.ownBlock=v.ownBlock∨∃ g,v'.ownBlock=some g∧W.heap.size≤g):=by
 obtain⟨v',w',hr,h2,h3,h4⟩:=xe9 3 32 W 0 318 328 ty _ Tryz.underlying318 xv1 rfl (by omega) (by omega) v L.length (xek L) hown ⟨g,0,none⟩ 1 c (ktC t) rfl (by
  intro j u hu
  match j,hu with
  | 0,hu=>simp only[ktC,List.getElem?_cons_zero,Option.some.injEq] at hu;rw[← hu];exact hx.1
  | 1,hu=>simp only[ktC,List.getElem?_cons_succ,List.getElem?_cons_zero,Option.some.injEq] at hu;rw[← hu];exact hx.2.1
  | 2,hu=>simp only[ktC,List.getElem?_cons_succ,List.getElem?_cons_zero,Option.some.injEq] at hu;rw[← hu];exact hx.2.2
  | j+3,hu=>simp[ktC] at hu) (by
  intro u hu
  simp only[ktC,List.mem_cons,List.not_mem_nil,or_false] at hu
  rcases hu with rfl|rfl|rfl <;> rfl) (by omega) (by omega) (Nat.zero_le _)
 refine⟨v',w',hr,?_,h3,h4⟩
 exact xoG h2 (by simp) (by rw[xhn];rfl)
end Go.Proofs.YtjinnigjfopbcaaGreatDoor
