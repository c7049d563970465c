/- aVa aVb aVe. -/
import Derived.Test.YtjkgkmmkehnggaaGreatDoorYa7
import Derived.Test.YtjkgkmmkehnggaaGreatDoorYs
set_option maxHeartbeats 16000000
namespace Go.Proofs.YtjkgkmmkehnggaaGreatDoor
set_option linter.unusedVariables false
set_option linter.unusedSimpArgs false
open Go.RowKit
set_option maxRecDepth 20000
theorem xvT (e a:En) (w:World) (he:xa1 e) (ha:xa1 a):Calls Tryz.prog 71 #[.agg (eC e),.agg (eC a)] w fun x w'=>x=.returned (.bool (xn0 a e))∧Below w.heap.size w w':=by
 have HL:=lH (fun W=>xes a W ha)
 have hla:0≤laN a∧laN a≤6004799503160660:=by
  by_cases h:ckN a=0
  ·have:=xn5 a ha h
   unfold xa1 at ha
   omega
  ·unfold laN
   rw[if_neg h]
   omega
 have HR:Hid (xn0 a e=decide (e.id=laN a+1∧a.off=e.off∧a.ln=e.ln)):=lH rfl
 generalize xn0 a e=R at *
 generalize laN a=la at *
 have hw:IntKind.u64.wrap (la+1)=la+1:=by rw[IntKind.wrap_u64];omega
 have hea:=EAt.made w e 151
 have heb:=EAt.made (w.alloc (.cells (eC e) 151)) a 151
 have hea2:=hea.later (w':=(w.alloc (.cells (eC e) 151)).alloc (.cells (eC a) 151)) ((Below.refl _ _).alloc (Nat.le_refl _) _)
 have hbw:Below w.heap.size w ((w.alloc (.cells (eC e) 151)).alloc (.cells (eC a) 151)):=((Below.refl _ _).alloc (Nat.le_refl _) _).alloc (by simp) _
 simp only[World.size_alloc] at heb
 unfold eC at HL hea2 heb hbw ⊢
 obtain⟨W,hW⟩:∃ W,(w.alloc (.cells #[.int .u64 e.id,.int .u64 e.off,.int .u32 e.ln,.int .u32 e.rn] 151)).alloc (.cells #[.int .u64 a.id,.int .u64 a.off,.int .u32 a.ln,.int .u32 a.rn] 151)=W:=⟨_,rfl⟩
 rw[hW] at hea2 heb hbw
 have HK:Hid (∀ w',Below W.heap.size W w'→((w'.cell? ⟨w.heap.size,0,none⟩=some (.int .u64 e.id)∧w'.cell? ⟨w.heap.size,1,none⟩=some (.int .u64 e.off)∧w'.cell? ⟨w.heap.size,2,none⟩=some (.int .u32 e.ln)∧w'.cell? ⟨w.heap.size,3,none⟩=some (.int .u32 e.rn))∧(w'.cell? ⟨w.heap.size+1,0,none⟩=some (.int .u64 a.id)∧w'.cell? ⟨w.heap.size+1,1,none⟩=some (.int .u64 a.off)∧w'.cell? ⟨w.heap.size+1,2,none⟩=some (.int .u32 a.ln)∧w'.cell? ⟨w.heap.size+1,3,none⟩=some (.int .u32 a.rn)))∧Below W.heap.size W w'):=lH (fun w' h=>⟨⟨hea2.later h,heb.later h⟩,h⟩)
 have HB:=lH hbw
 clear hea hea2 heb hbw he ha hla
 by_cases d1:e.id=la+1
 ·by_cases d2:e.off=a.off
  ·by_cases d3:e.ln=a.ln
   ·have HRR:Hid (R=true):=lH (by rw[HR.out,decide_eq_true_iff];exact⟨d1,d2.symm,d3.symm⟩)
    have e1:(e.id == la+1)=true:=by simpa using d1
    have e2:(e.off == a.off)=true:=by simpa using d2
    have e3:(e.ln == a.ln)=true:=by simpa using d3
    clear HR d1 d2 d3
    go_enter Tryz.func71,Tryz.ntmps71
    go_wp2_with fail
    refine wp_region_held_drew (S:=fun w'=>((w'.cell? ⟨w.heap.size,0,none⟩=some (.int .u64 e.id)∧w'.cell? ⟨w.heap.size,1,none⟩=some (.int .u64 e.off)∧w'.cell? ⟨w.heap.size,2,none⟩=some (.int .u32 e.ln)∧w'.cell? ⟨w.heap.size,3,none⟩=some (.int .u32 e.rn))∧(w'.cell? ⟨w.heap.size+1,0,none⟩=some (.int .u64 a.id)∧w'.cell? ⟨w.heap.size+1,1,none⟩=some (.int .u64 a.off)∧w'.cell? ⟨w.heap.size+1,2,none⟩=some (.int .u32 a.ln)∧w'.cell? ⟨w.heap.size+1,3,none⟩=some (.int .u32 a.rn)))∧Below W.heap.size W w') (by kernel_rfl) (HK.out _ (Below.drew (Below.refl _ _))) (fun hH0=>?_)
    refine tK 0 5 hH0 ?_
    refine tK 1 6 hH0 ?_
    refine tK 2 7 hH0 ?_
    refine wpAnyH_ready (rs:=[3]) (by kernel_rfl) (by simp) ?_
    refine AllReadyH.cons rfl (fun K hK=>?_) AllReadyH.nil
    go_simp
    refine(HL.out _).mono ?_
    rintro e w' ⟨rfl,hb⟩
    go_wp2_with fail
    refine hK.out _ _ (HK.out _ (hH0.2.trans (hb.mono hH0.2.size))) (fun hH1=>?_)
    clear hK K hb hH0
    try simp only[Act.put,zsA,zsB,zsC]
    refine tK 4 9 hH1 ?_
    refine tK 5 10 hH1 ?_
    refine tK 6 11 hH1 ?_
    refine tK 7 12 hH1 ?_
    refine tK 8 13 hH1 ?_
    refine tK 9 14 hH1 ?_
    refine tK 10 15 hH1 ?_
    refine tK 11 16 hH1 ?_
    refine tK 12 17 hH1 ?_
    refine tK 13 18 hH1 ?_
    refine tK 14 19 hH1 ?_
    refine tK 15 20 hH1 ?_
    refine tK 16 21 hH1 ?_
    refine tK 17 22 hH1 ?_
    refine tK 18 23 hH1 ?_
    refine tK 19 24 hH1 ?_
    refine tK 20 4 hH1 ?_
    refine wpAnyH_done (by kernel_rfl) ?_ _
    go_wp2_with fail
    go_ret
    exact⟨by rw[HRR.out];first|rfl|simp[*],HB.out.trans (hH1.2.mono HB.out.size)⟩
   ·have HRR:Hid (R=false):=lH (by rw[HR.out,decide_eq_false_iff_not];exact fun h=>d3 h.2.2.symm)
    have e1:(e.id == la+1)=true:=by simpa using d1
    have e2:(e.off == a.off)=true:=by simpa using d2
    have e3:(e.ln == a.ln)=false:=by simpa using d3
    clear HR d1 d2 d3
    go_enter Tryz.func71,Tryz.ntmps71
    go_wp2_with fail
    refine wp_region_held_drew (S:=fun w'=>((w'.cell? ⟨w.heap.size,0,none⟩=some (.int .u64 e.id)∧w'.cell? ⟨w.heap.size,1,none⟩=some (.int .u64 e.off)∧w'.cell? ⟨w.heap.size,2,none⟩=some (.int .u32 e.ln)∧w'.cell? ⟨w.heap.size,3,none⟩=some (.int .u32 e.rn))∧(w'.cell? ⟨w.heap.size+1,0,none⟩=some (.int .u64 a.id)∧w'.cell? ⟨w.heap.size+1,1,none⟩=some (.int .u64 a.off)∧w'.cell? ⟨w.heap.size+1,2,none⟩=some (.int .u32 a.ln)∧w'.cell? ⟨w.heap.size+1,3,none⟩=some (.int .u32 a.rn)))∧Below W.heap.size W w') (by kernel_rfl) (HK.out _ (Below.drew (Below.refl _ _))) (fun hH0=>?_)
    refine tK 0 5 hH0 ?_
    refine tK 1 6 hH0 ?_
    refine tK 2 7 hH0 ?_
    refine wpAnyH_ready (rs:=[3]) (by kernel_rfl) (by simp) ?_
    refine AllReadyH.cons rfl (fun K hK=>?_) AllReadyH.nil
    go_simp
    refine(HL.out _).mono ?_
    rintro e w' ⟨rfl,hb⟩
    go_wp2_with fail
    refine hK.out _ _ (HK.out _ (hH0.2.trans (hb.mono hH0.2.size))) (fun hH1=>?_)
    clear hK K hb hH0
    try simp only[Act.put,zsA,zsB,zsC]
    refine tK 4 9 hH1 ?_
    refine tK 5 10 hH1 ?_
    refine tK 6 11 hH1 ?_
    refine tK 7 12 hH1 ?_
    refine tK 8 13 hH1 ?_
    refine tK 9 14 hH1 ?_
    refine tK 10 15 hH1 ?_
    refine tK 11 16 hH1 ?_
    refine tK 12 17 hH1 ?_
    refine tK 13 18 hH1 ?_
    refine tK 14 19 hH1 ?_
    refine tK 15 20 hH1 ?_
    refine tK 16 21 hH1 ?_
    refine tK 17 22 hH1 ?_
    refine tK 18 23 hH1 ?_
    refine tK 19 24 hH1 ?_
    refine tK 20 4 hH1 ?_
    refine wpAnyH_done (by kernel_rfl) ?_ _
    go_wp2_with fail
    go_ret
    exact⟨by rw[HRR.out];first|rfl|simp[*],HB.out.trans (hH1.2.mono HB.out.size)⟩
  ·have HRR:Hid (R=false):=lH (by rw[HR.out,decide_eq_false_iff_not];exact fun h=>d2 h.2.1.symm)
   have e1:(e.id == la+1)=true:=by simpa using d1
   have e2:(e.off == a.off)=false:=by simpa using d2
   clear HR d1 d2
   go_enter Tryz.func71,Tryz.ntmps71
   go_wp2_with fail
   refine wp_region_held_drew (S:=fun w'=>((w'.cell? ⟨w.heap.size,0,none⟩=some (.int .u64 e.id)∧w'.cell? ⟨w.heap.size,1,none⟩=some (.int .u64 e.off)∧w'.cell? ⟨w.heap.size,2,none⟩=some (.int .u32 e.ln)∧w'.cell? ⟨w.heap.size,3,none⟩=some (.int .u32 e.rn))∧(w'.cell? ⟨w.heap.size+1,0,none⟩=some (.int .u64 a.id)∧w'.cell? ⟨w.heap.size+1,1,none⟩=some (.int .u64 a.off)∧w'.cell? ⟨w.heap.size+1,2,none⟩=some (.int .u32 a.ln)∧w'.cell? ⟨w.heap.size+1,3,none⟩=some (.int .u32 a.rn)))∧Below W.heap.size W w') (by kernel_rfl) (HK.out _ (Below.drew (Below.refl _ _))) (fun hH0=>?_)
   refine tK 0 5 hH0 ?_
   refine tK 1 6 hH0 ?_
   refine tK 2 7 hH0 ?_
   refine wpAnyH_ready (rs:=[3]) (by kernel_rfl) (by simp) ?_
   refine AllReadyH.cons rfl (fun K hK=>?_) AllReadyH.nil
   go_simp
   refine(HL.out _).mono ?_
   rintro e w' ⟨rfl,hb⟩
   go_wp2_with fail
   refine hK.out _ _ (HK.out _ (hH0.2.trans (hb.mono hH0.2.size))) (fun hH1=>?_)
   clear hK K hb hH0
   try simp only[Act.put,zsA,zsB,zsC]
   refine tK 4 9 hH1 ?_
   refine tK 5 10 hH1 ?_
   refine tK 6 11 hH1 ?_
   refine tK 7 12 hH1 ?_
   refine tK 8 13 hH1 ?_
   refine tK 9 14 hH1 ?_
   refine tK 10 15 hH1 ?_
   refine tK 11 16 hH1 ?_
   refine tK 12 17 hH1 ?_
   refine tK 13 18 hH1 ?_
   refine tU 14 19 hH1 ?_
   refine tU 15 20 hH1 ?_
   refine tU 16 21 hH1 ?_
   refine tU 17 22 hH1 ?_
   refine tU 18 23 hH1 ?_
   refine tK 19 24 hH1 ?_
   refine tK 20 4 hH1 ?_
   refine wpAnyH_done (by kernel_rfl) ?_ _
   go_wp2_with fail
   go_ret
   exact⟨by rw[HRR.out];first|rfl|simp[*],HB.out.trans (hH1.2.mono HB.out.size)⟩
 ·have HRR:Hid (R=false):=lH (by rw[HR.out,decide_eq_false_iff_not];exact fun h=>d1 h.1)
  have e1:(e.id == la+1)=false:=by simpa using d1
  clear HR d1
  go_enter Tryz.func71,Tryz.ntmps71
  go_wp2_with fail
  refine wp_region_held_drew (S:=fun w'=>((w'.cell? ⟨w.heap.size,0,none⟩=some (.int .u64 e.id)∧w'.cell? ⟨w.heap.size,1,none⟩=some (.int .u64 e.off)∧w'.cell? ⟨w.heap.size,2,none⟩=some (.int .u32 e.ln)∧w'.cell? ⟨w.heap.size,3,none⟩=some (.int .u32 e.rn))∧(w'.cell? ⟨w.heap.size+1,0,none⟩=some (.int .u64 a.id)∧w'.cell? ⟨w.heap.size+1,1,none⟩=some (.int .u64 a.off)∧w'.cell? ⟨w.heap.size+1,2,none⟩=some (.int .u32 a.ln)∧w'.cell? ⟨w.heap.size+1,3,none⟩=some (.int .u32 a.rn)))∧Below W.heap.size W w') (by kernel_rfl) (HK.out _ (Below.drew (Below.refl _ _))) (fun hH0=>?_)
  refine tK 0 5 hH0 ?_
  refine tK 1 6 hH0 ?_
  refine tK 2 7 hH0 ?_
  refine wpAnyH_ready (rs:=[3]) (by kernel_rfl) (by simp) ?_
  refine AllReadyH.cons rfl (fun K hK=>?_) AllReadyH.nil
  go_simp
  refine(HL.out _).mono ?_
  rintro e w' ⟨rfl,hb⟩
  go_wp2_with fail
  refine hK.out _ _ (HK.out _ (hH0.2.trans (hb.mono hH0.2.size))) (fun hH1=>?_)
  clear hK K hb hH0
  try simp only[Act.put,zsA,zsB,zsC]
  refine tK 4 9 hH1 ?_
  refine tK 5 10 hH1 ?_
  refine tK 6 11 hH1 ?_
  refine tU 7 12 hH1 ?_
  refine tU 8 13 hH1 ?_
  refine tU 9 14 hH1 ?_
  refine tU 10 15 hH1 ?_
  refine tU 11 16 hH1 ?_
  refine tK 12 17 hH1 ?_
  refine tK 13 18 hH1 ?_
  refine tU 14 19 hH1 ?_
  refine tU 15 20 hH1 ?_
  refine tU 16 21 hH1 ?_
  refine tU 17 22 hH1 ?_
  refine tU 18 23 hH1 ?_
  refine tK 19 24 hH1 ?_
  refine tK 20 4 hH1 ?_
  refine wpAnyH_done (by kernel_rfl) ?_ _
  go_wp2_with fail
  go_ret
  exact⟨by rw[HRR.out];first|rfl|simp[*],HB.out.trans (hH1.2.mono HB.out.size)⟩
theorem xqX (v:Value) (l:List En) (e:En) (w:World) (hv:xam w v l) (hm:xaT l) (he:xa1 e):Calls Tryz.prog 70 #[v,.agg (eC e),.func (.func 71) #[] #[]] w fun x w'=>x=.returned (.bool (xel l e))∧Below w.heap.size w w':=by
 have hbw:Below w.heap.size w (w.alloc (.cells (eC e) 147)):=(Below.refl _ _).alloc (Nat.le_refl _) _
 have hea:=EAt.made w e 147
 have hv2:=hv.below hbw
 rcases List.eq_nil_or_concat l with rfl|⟨r,a,rfl⟩
 ·obtain⟨a0,c0,rfl,-⟩:=hv
  have HR:Hid (xel [] e=false):=lH rfl
  have hz:IntKind.i64.wrap ((0:Int) - 1)=-1:=by rw[IntKind.wrap_i64];omega
  rw[List.length_nil]
  unfold eC at hbw hea ⊢
  obtain⟨W,hW⟩:∃ W,(w.alloc (.cells #[.int .u64 e.id,.int .u64 e.off,.int .u32 e.ln,.int .u32 e.rn] 147))=W:=⟨_,rfl⟩
  rw[hW] at hea hbw
  have HK:Hid (∀ w',Below W.heap.size W w'→(w'.cell? ⟨w.heap.size,0,none⟩=some (.int .u64 e.id)∧w'.cell? ⟨w.heap.size,1,none⟩=some (.int .u64 e.off)∧w'.cell? ⟨w.heap.size,2,none⟩=some (.int .u32 e.ln)∧w'.cell? ⟨w.heap.size,3,none⟩=some (.int .u32 e.rn))∧Below W.heap.size W w'):=lH (fun w' h=>⟨hea.later h,h⟩)
  have HB:=lH hbw
  clear hea hbw hv2 he hm
  go_enter Tryz.func70,Tryz.ntmps70
  go_wp2_with fail
  refine wp_region_held_drew (S:=fun w'=>(w'.cell? ⟨w.heap.size,0,none⟩=some (.int .u64 e.id)∧w'.cell? ⟨w.heap.size,1,none⟩=some (.int .u64 e.off)∧w'.cell? ⟨w.heap.size,2,none⟩=some (.int .u32 e.ln)∧w'.cell? ⟨w.heap.size,3,none⟩=some (.int .u32 e.rn))∧Below W.heap.size W w') (by kernel_rfl) (HK.out _ (Below.drew (Below.refl _ _))) (fun hH0=>?_)
  refine tK 0 11 hH0 ?_
  refine tK 1 12 hH0 ?_
  refine tK 2 13 hH0 ?_
  refine tU 3 14 hH0 ?_
  refine tU 4 15 hH0 ?_
  refine tU 5 16 hH0 ?_
  refine tU 6 17 hH0 ?_
  refine tU 7 18 hH0 ?_
  refine tU 8 19 hH0 ?_
  refine tU 9 20 hH0 ?_
  refine tK 10 21 hH0 ?_
  refine tK 11 6 hH0 ?_
  refine wpAnyH_done (by kernel_rfl) ?_ _
  go_wp2_with fail
  go_ret
  exact⟨by rw[HR.out];rfl,HB.out.trans (hH0.2.mono HB.out.size)⟩
 ·rw[List.concat_eq_append] at *
  have HR:=lH (xcH r a e)
  obtain⟨g,off,cap,rfl,hle,hg,hc⟩:=xh0 hv r.length (by simp)
  have hmx:r.length+1≤maxLen:=by
   obtain⟨a',c',e',h1,h2,_⟩:=hv
   rw[List.length_append,List.length_singleton] at h1
   omega
  have hlt:(r++[a]).length=r.length+1:=by simp
  rw[hlt] at *
  have hca:=hc r.length a (by simp)
  have hG:=fun W=>xvT e a W he (hm a (by simp))
  have HCA:=lH (fun X (hX:Below w.heap.size w X)=>xfI hX hca)
  unfold maxLen at hmx
  have hi1:IntKind.i64.wrap ((r.length:Int)+1 - 1)=(r.length:Int):=by rw[IntKind.wrap_i64];omega
  have hi2:IntKind.i64.wrap (r.length:Int)=(r.length:Int):=by rw[IntKind.wrap_i64];omega
  have hi3:(r.length:Int)<(r.length:Int)+1:=by omega
  have hi4:(0:Int)≤(r.length:Int):=by omega
  unfold eC at hbw hea hG ⊢
  have HG:=lH hG
  obtain⟨W,hW⟩:∃ W,(w.alloc (.cells #[.int .u64 e.id,.int .u64 e.off,.int .u32 e.ln,.int .u32 e.rn] 147))=W:=⟨_,rfl⟩
  rw[hW] at hea hbw
  have HK:Hid (∀ w',Below W.heap.size W w'→((w'.cell? ⟨w.heap.size,0,none⟩=some (.int .u64 e.id)∧w'.cell? ⟨w.heap.size,1,none⟩=some (.int .u64 e.off)∧w'.cell? ⟨w.heap.size,2,none⟩=some (.int .u32 e.ln)∧w'.cell? ⟨w.heap.size,3,none⟩=some (.int .u32 e.rn))∧(w'.cell? ⟨g,off+r.length*4,none⟩=some (.int .u64 a.id)∧w'.cell? ⟨g,off+r.length*4+1,none⟩=some (.int .u64 a.off)∧w'.cell? ⟨g,off+r.length*4+2,none⟩=some (.int .u32 a.ln)∧w'.cell? ⟨g,off+r.length*4+3,none⟩=some (.int .u32 a.rn)))∧Below W.heap.size W w'):=lH (fun w' h=>⟨⟨hea.later h,HCA.out w' (hbw.trans (h.mono hbw.size))⟩,h⟩)
  have HB:=lH hbw
  generalize xn0 a e=R at *
  clear hea hbw hv2 hv he hm hG hc hca hlt
  generalize r.length=rl at *
  go_enter Tryz.func70,Tryz.ntmps70
  go_wp2_with fail
  refine wp_region_held_drew (S:=fun w'=>((w'.cell? ⟨w.heap.size,0,none⟩=some (.int .u64 e.id)∧w'.cell? ⟨w.heap.size,1,none⟩=some (.int .u64 e.off)∧w'.cell? ⟨w.heap.size,2,none⟩=some (.int .u32 e.ln)∧w'.cell? ⟨w.heap.size,3,none⟩=some (.int .u32 e.rn))∧(w'.cell? ⟨g,off+rl*4,none⟩=some (.int .u64 a.id)∧w'.cell? ⟨g,off+rl*4+1,none⟩=some (.int .u64 a.off)∧w'.cell? ⟨g,off+rl*4+2,none⟩=some (.int .u32 a.ln)∧w'.cell? ⟨g,off+rl*4+3,none⟩=some (.int .u32 a.rn)))∧Below W.heap.size W w') (by kernel_rfl) (HK.out _ (Below.drew (Below.refl _ _))) (fun hH0=>?_)
  refine tK 0 11 hH0 ?_
  refine tK 1 12 hH0 ?_
  refine tK 2 13 hH0 ?_
  refine tK 3 14 hH0 ?_
  refine tK 4 15 hH0 ?_
  refine tK 5 16 hH0 ?_
  refine tK 6 17 hH0 ?_
  refine tK 7 18 hH0 ?_
  refine tK 8 19 hH0 ?_
  refine wpAnyH_ready (rs:=[9]) (by kernel_rfl) (by simp) ?_
  refine AllReadyH.cons rfl (fun K hK=>?_) AllReadyH.nil
  go_simp
  refine(HG.out _).mono ?_
  rintro e w' ⟨rfl,hb⟩
  go_wp2_with fail
  refine hK.out _ _ (HK.out _ (hH0.2.trans (hb.mono hH0.2.size))) (fun hH1=>?_)
  clear hK K hb hH0
  try simp only[Act.put,zsA,zsB,zsC]
  refine tK 10 21 hH1 ?_
  refine tK 11 6 hH1 ?_
  refine wpAnyH_done (by kernel_rfl) ?_ _
  go_wp2_with fail
  go_ret
  exact⟨by rw[HR.out];rfl,HB.out.trans (hH1.2.mono HB.out.size)⟩
end Go.Proofs.YtjkgkmmkehnggaaGreatDoor
namespace Go.Proofs.YtjkgkmmkehnggaaGreatDoor
set_option linter.unusedVariables false
set_option linter.unusedSimpArgs false
open Go.RowKit Go.Shelf
set_option maxRecDepth 20000
theorem xv4 {F:Fence} {n:Nat} {P:Program} (w:World) {ops:Array Oper} {rest:List Oper} {o:Oper} {a:Act} {Q:Exit→Act→World→Prop} (hg:o.guard=none) (s x:Operand) (t:TypeId)
  (hop:o.op=Op.call { callee:=Callee.builtin Builtin.append,args:=#[s,x],argTypes:=#[t,t] }) (v:Value) (ad:Addr) (m c:Nat) (hs:a.eval s=v) (hx:a.eval x=.slice (some ad) m c) (v':Value) (w':World)
  (hrun:(Builtin.append_ #[t,t] o.type #[v,.slice (some ad) m c]).run P w=.ok v' w') (hK:wpListIn F n P ops Q rest (a.put o.dst v') w'):wpListIn F n P ops Q (o :: rest) a w:=by
 refine wpListIn_plain hg fun K hK'=>⟨?_,?_⟩
 ·simp[Oper.about,hop,resolve,Target.leads,Sem.run_pure]
 ·rw[Oper.semAt_plain F _ _ (by rw[hop];intro c hc';cases hc')]
  simp[execOp,hop,resolve,invoke,builtin,hs,hx,hrun,Result.andThen]
  exact hK' _ _ hK
attribute [local go_sem] Oper.semAt_some
def xdT (Q:Exit→Act→World→Prop):Exit→Act→World→Prop
 | .normal,a,w=>Q .normal a w
 | _,_,_=>False
theorem xgn {Q:Exit→Act→World→Prop}:∀ (e:Exit) (a:Act) (w:World),xdT Q e a w→Q e a w
 | .normal,_,_,h=>h
theorem xgT {P:Program} {ops:Array Oper} {Q:Exit→Act→World→Prop} {S:World→Prop} {id:Nat} {a:Act} {w:World} (hm:P.follows .mixedOrders=true) (hS:S w.drew)
  (h:S w.drew→wpAnyH P .any ops (xdT Q) S ops.size (Array.replicate ops.size false) a w.drew):(Code.region id ops true).wp P (xdT Q) a w:=wp_region_held_drew hm hS h
set_option maxRecDepth 100000 in
theorem xpD (s:Value) (L:List It) (w:World) (h:ChS w s L) :
  Calls Tryz.prog 29 #[.agg #[s]] w fun e w'=>∃ v',e=.returned (.tuple #[v',.string (xb7 (xad L).2)])∧xam w' v' (xad L).1∧Below w.heap.size w w':=by
 have HG:=lH h.good
 have HCH:=lH h
 have HVC:Hid (∀ b a n c,L≠[]→s=.slice (some a) n c→b=a.block→b<w.heap.size):=lH (fun b a n c hl e hb=>by
  obtain⟨a',cap,e',_,_,hc⟩:=h.its
  rw[e] at e'
  cases e'
  obtain⟨t0,ht0⟩:∃ t,L[0]?=some t:=⟨_,List.getElem?_eq_getElem (by cases L with|nil=>exact absurd rfl hl|cons _ _=>simp)⟩
  obtain⟨g,off,ha,hg,_⟩:=hc 0 t0 ht0
  cases ha
  rw[hb]
  exact hg)
 obtain⟨a7,n7,p7,rfl⟩:=h.form
 clear h
 refine(callsIn_wide (n:=10)).1 ?_
 refine callsIn_of_wp_marks Tryz.func29 rfl trivial ?_ rfl
 simp only[Tryz.ntmps29,List.size_toArray,List.length_cons,List.length_nil,Nat.reduceAdd,Nat.reduceSub,Array.replicate_succ,Array.replicate_zero,List.push_toArray,List.append_toArray,List.nil_append,List.cons_append]
 have HB0:Hid (Below w.heap.size w (w.alloc (.cells #[.slice a7 n7 p7] 32))):=lH (xah _ _)
 have HC0:=lH (xbb w (.slice a7 n7 p7) 32)
 have HNW:=lH (xz1 (w.alloc (.cells #[.slice a7 n7 p7] 32)))
 gi_wp2
 generalize hW0:w.alloc (.cells #[.slice a7 n7 p7] 32)=W0 at *
 refine⟨trivial,(callsIn_wide.2 HNW.out).mono ?_⟩
 rintro y w1 ⟨pv,Sp,rfl,hpool,hbas,hb1⟩
 obtain⟨pa,rfl⟩:=hpool.ptr
 have HBW1:=lH (HB0.out.trans (hb1.mono HB0.out.size))
 have HC1:=lH (HC0.out.below hb1)
 have HP1:=lH hpool
 have HPL:=lH (fun b (hb:Sp b)=>hpool.lt b hb)
 have HBS:=lH (fun b (hb:Sp b)=>Nat.le_trans HB0.out.size (hbas b hb))
 have HEA:=lH (fun X (hX:Below w.heap.size w X)=>xoE (.slice a7 n7 p7) L X (HCH.out.below hX))
 have cc:=HC1.out.cell
 have hlc:w.heap.size<w1.heap.size:=HC1.out.lt
 clear hpool hbas hb1 hW0 HB0 HC0 HNW
 gi_wp2
 obtain⟨W2,hW2⟩:∃ W2,(w1.alloc (.cells #[.pointer (some pa)] 138)).alloc (.cells #[.slice none 0 0] 84)=W2:=⟨_,rfl⟩
 have hz2:w1.heap.size+2≤W2.heap.size:=by rw[← hW2];simp
 have hb12:Below w1.heap.size w1 W2:=by rw[← hW2];go_grown
 have HBp:One W2 w1.heap.size (.pointer (some pa)):=by rw[← hW2];exact(xbb w1 _ _).alloc _
 have HBl:One W2 (w1.heap.size+1) (.slice none 0 0):=by
  have h:=xbb (w1.alloc (.cells #[.pointer (some pa)] 138)) (.slice none 0 0) 84
  rw[World.size_alloc] at h
  rw[← hW2]
  exact h
 try rw[hW2]
 have hbw2:Below w.heap.size w W2:=HBW1.out.trans (hb12.mono HBW1.out.size)
 have HR2:Hid (RwP w w.heap.size w1.heap.size (w1.heap.size+1) (.pointer (some pa)) [] [] (.slice none 0 0) Sp W2):=lH
  ⟨HBp,HBl,xbw _ _ _,HP1.out.belowG hb12,fun h=>by have:=HP1.out.lt _ h;omega,fun h=>by have:=HP1.out.lt _ h;omega,(fun b h=>by cases h),by omega,HBS.out,by omega,hbw2⟩
 refine⟨trivial,(callsIn_wide.2 (HEA.out _ hbw2)).mono ?_⟩
 rintro y w3 ⟨rfl,hcell,hb3⟩
 have hR3:=HR2.out.later hb3
 have HITS:=lH ((HCH.out.below (hbw2.trans (hb3.mono hbw2.size))).its)
 have hz3:=hb3.size
 have hVV:∀ b,VC W2.heap.size (.slice a7 n7 p7) L b→b<w3.heap.size∧(b=W2.heap.size∨b<w.heap.size):=fun b hb=>by
  rcases hb with rfl|⟨hl,a,n,c,e,hb⟩
  ·exact⟨xbx hcell,.inl rfl⟩
  ·have:=HVC.out b a n c hl e hb
   exact⟨by omega,.inr this⟩
 have HCE:=lH hcell
 have HR3:=lH hR3
 have HVV:=lH hVV
 clear hcell hR3 hVV hW2 HBp HBl hb12 HR2 HP1 HC1 HEA cc
 gi_wp2
 refine xv0 (n:=10) (val:=fun k=>.int .u64 (idC L k)) (va2:=fun k=>.string (txC L k)) (r:=6) (s:=7) rfl (enters_of Tryz.func136 (by kernel_rfl) rfl) (xoM (.slice a7 n7 p7) L W2.heap.size w3 HITS.out HCE.out).toY (Below.refl _ _) (fun _ h=>h.elim) (fun b hb=>(HVV.out b hb).1)
  (RwI w w.heap.size w1.heap.size (w1.heap.size+1) (.pointer (some pa)) L) (fun _ _ _=>False) ?hI (fun _ _ _ _ _ h _ _=>h) (fun k S W h=>⟨trivial,h.lt⟩) (xjf (w1.heap.size+1) (.slice none 0 0) Sp) ?hS0 ?h0 (fun _ _ _ _ _ _ _ _=>trivial) (fun _ _ _ _ _ _ _ _ _=>trivial) ?assign ?body ?done (fun _ _ _ _ _ _ h _=>h.elim)
 case hI=>exact xrB w w.heap.size w1.heap.size (w1.heap.size+1) (.pointer (some pa)) L w3.heap.size HR3.out.size
 case hS0 =>
  intro b hb
  refine⟨HR3.out.lt b hb,fun hv=>?_⟩
  have h1:=HR3.out.low b hb
  rcases(HVV.out b hv).2 with rfl|h2
  ·rcases hb with hb|hb|hb
   ·omega
   ·cases hb
   ·have:=HPL.out _ hb;omega
  ·omega
 case h0=>exact⟨_,_,HR3.out,fun b=>Iff.rfl⟩
 case assign =>
  intro lq k W' K hK
  simp only[List.setIfInBounds_toArray,List.set_cons_zero,List.set_cons_succ] at hK ⊢
  gi_wp2
  exact hK
 case body =>
  rintro lq k S W hlq ⟨vo,Sq,hR,hS⟩ - hk
  obtain⟨⟨x,t⟩,htk⟩:∃ t,L[k]?=some t:=⟨_,List.getElem?_eq_getElem hk⟩
  have hidk:idC L k=(x:Int):=by unfold idC;rw[List.getD_eq_getElem?_getD,htk];rfl
  have htxk:txC L k=t:=by unfold txC;rw[List.getD_eq_getElem?_getD,htk];rfl
  have hm:=List.mem_of_getElem? htk
  have hri:=xgE HG.out k (Nat.le_of_lt hk)
  have hNX:(xad (L.take (k+1))).1=xxv (xad (L.take k)).1 ⟨x,offA (xad (L.take k)).2 t,lenA (xad (L.take k)).2 t,1⟩:=by rw[xfu L k _ htk];rfl
  have hNT:(xad (L.take (k+1))).2=xcp (xad (L.take k)).2 t:=by rw[xfu L k _ htk];rfl
  have hlen:=hri.len
  have hgad:=hri.good.add t
  have hok:=hri.ok
  have hfw:=hri.few
  have hex:=congrArg List.length hri.exp
  have hfew:=HG.out.few
  have hS':S=xjf (w1.heap.size+1) vo Sq:=funext fun b=>propext (hS b)
  subst hS'
  clear hS
  generalize hrows:(xad (L.take k)).1=rows at *
  generalize hts:(xad (L.take k)).2=ts at *
  rw[List.length_take] at hlen hfw
  have hpl:=xkl (ts:=ts) (s:=t) (HG.out.pos _ hm) (HG.out.short _ hm) (by omega)
  have hfl:=xev _ _ _ _ hpl.2
  have htt:totF (xcp ts t)≤134217728:=hgad.tot
  have hts2:t.size≤65536:=HG.out.short _ hm
  have hxl:=HG.out.low _ hm
  have hrn:∀ e ∈ rows,e.rn≤2048:=fun e he=>by have:=xBL (d:=xb7 ts) he;rw[List.length_take] at hex;omega
  have hmr:xaT rows:=fun e he=>(hok e he).may
  dsimp only at hxl
  rw[hpl.1] at hNX
  obtain⟨e1,he1⟩:∃ e1:En,e1=⟨x,offA ts t,t.size,1⟩:=⟨_,rfl⟩
  rw[← he1] at hNX
  have HNX:=lH hNX
  have HNT:=lH hNT
  clear hNX hNT
  have hme1:xa1 e1:=by rw[he1];unfold xa1;simp only;omega
  have HAD:=lH (xvE (.pointer (some pa)) ts Sq t W hR.pool (by unfold maxLen;omega))
  have hAR:xzp ts t=.tuple #[.agg #[.int .u64 (offA ts t:Nat),.int .u32 (t.size:Nat)],.bool (xdb ts t),.int .i64 (eV ts t:Nat)]:=by unfold xzp;rw[hpl.1]
  rw[hAR] at HAD
  obtain⟨lo,hlo⟩:∃ lo,xel rows e1=lo:=⟨_,rfl⟩
  have hAH:=fun X (h:xam X vo rows)=>xqX vo rows e1 X h hmr hme1
  rw[hlo] at hAH
  rw[he1] at hAH
  unfold eC at hAH
  have HAH:=lH hAH
  have HE1:=lH he1
  have HLO:=lH hlo
  have HME:=lH hmr
  clear hAH hlo
  obtain⟨av,cv,hvo⟩:∃ a c,vo=.slice a rows.length c:=by
   obtain⟨a,c,h,_⟩:=hR.out.ensAt
   exact⟨a,c,h⟩
  subst hvo
  have HR:=lH hR
  have HOK:=lH hok
  have HRN:=lH hrn
  have c1:=hR.bxp.cell
  have hlb:=hR.bxl.lt
  have hlp:=hR.bxp.lt
  rw[hidk,htxk]
  clear hidk htxk hR hok hrn hm hri hlen hgad hex hrows hts hfl htt he1 hAR htk hmr hpl
  generalize offA ts t=oA at *
  generalize xdb ts t=bN at *
  generalize eV ts t=eN at *
  simp only[List.setIfInBounds_toArray,List.set_cons_zero,List.set_cons_succ]
  gi_wp2
  refine⟨trivial,(CallsIn.inRound lq (callsIn_wide.2 HAD.out)).mono ?_⟩
  rintro y w4 ⟨rfl,Sr,hp4,hk4⟩
  have hr4:=HR.out.add hp4 hk4
  have HR4:=lH hr4.1
  have HK4:=lH hr4.2
  have c4:=hr4.1.bxl.cell
  have c4a:∀ O,(w4.alloc O).cell? ⟨w1.heap.size+1,0,none⟩=_:=fun O=>(hr4.1.bxl.alloc O).cell
  have c4b:∀ O O',((w4.alloc O).alloc O').cell? ⟨w1.heap.size+1,0,none⟩=_:=fun O O'=>((hr4.1.bxl.alloc O).alloc O').cell
  clear hp4 hk4 hr4 c1 hlb hlp HAD HR
  gi_wp2
  have HE5:=lH (EAt.made (w4.alloc (.cells #[.int .u64 (oA:Nat),.int .u32 (t.size:Nat)] 144)) e1 147)
  have hb45:Below w4.heap.size w4 ((w4.alloc (.cells #[.int .u64 (oA:Nat),.int .u32 (t.size:Nat)] 144)).alloc (.cells #[.int .u64 (x:Nat),.int .u64 (oA:Nat),.int .u32 (t.size:Nat),.int .u32 1] 147)):=by go_grown
  rw[HE1.out] at HE5
  unfold eC at HE5
  dsimp only at HE5
  rw[World.size_alloc] at HE5
  have HB45:=lH hb45
  clear c4 c4a c4b hb45
  generalize hW5:(w4.alloc (.cells #[.int .u64 (oA:Nat),.int .u32 (t.size:Nat)] 144)).alloc (.cells #[.int .u64 (x:Nat),.int .u64 (oA:Nat),.int .u32 (t.size:Nat),.int .u32 1] 147)=W5 at *
  refine⟨trivial,(CallsIn.inRound lq (callsIn_wide.2 (HAH.out _ (HR4.out.later HB45.out).out.ensAt))).mono ?_⟩
  rintro y w6 ⟨rfl,hb6⟩
  have hb46:=HB45.out.trans (hb6.mono HB45.out.size)
  have HR6:=lH (HR4.out.later hb46)
  have HK6:=lH (HK4.out.trans (KeepsS.below _ hb46))
  have he6:=HE5.out.later hb6
  obtain⟨k0,k1,k2,k3⟩:=he6
  dsimp only at k0 k1 k2 k3
  clear hb6 hb46 hW5 HR4 HK4 HB45 HAH HE5
  cases lo with
  | true =>
   obtain⟨r,a,rfl,hadd⟩:=xuR HLO.out
   have hlt:(r++[a]).length=r.length+1:=by simp
   rw[hlt] at hfw HR6 HK6 ⊢
   have hra:=HRN.out a (by simp)
   have hma:=(HOK.out a (by simp)).may
   unfold xa1 at hma
   obtain⟨go,hu,hcn,hfz⟩:∃ go,av=some ⟨go,0,none⟩∧w6.cell? ⟨go,r.length*4+3,none⟩=some (.int .u32 a.rn)∧w6.frozen? ⟨go,r.length*4+3,none⟩=false:=by
    rcases HR6.out.out.form with ⟨_,h⟩|⟨go,c,h,_,_,_,_,_,hf⟩
    ·simp at h
    ·have hav:av=some ⟨go,0,none⟩:=by injection h
     refine⟨go,hav,?_,hf _⟩
     obtain⟨a',c',e,_,_,hcc⟩:=HR6.out.out.ensAt
     have ha':a'=some ⟨go,0,none⟩:=by
      injection e with e' _ _
      rw[← e',hav]
     obtain⟨g',o',e2,_,hq⟩:=hcc r.length a (by simp)
     rw[ha'] at e2
     cases e2
     simpa using hq.2.2.2
   subst hu
   have hrun:=HR6.out.run (a.rn+1)
   have HN:Hid (RwI w w.heap.size w1.heap.size (w1.heap.size+1) (.pointer (some pa)) L (k+1) (xjf (w1.heap.size+1) (.slice (some ⟨go,0,none⟩) (r.length+1) cv) Sr) (w6.setCell ⟨go,r.length*4+3,none⟩ (.int .u32 (a.rn+1)))∧KeepsS (xjf (w1.heap.size+1) (.slice (some ⟨go,0,none⟩) (r.length+1) cv) Sq) (xjf (w1.heap.size+1) (.slice (some ⟨go,0,none⟩) (r.length+1) cv) Sr) W (w6.setCell ⟨go,r.length*4+3,none⟩ (.int .u32 (a.rn+1)))):=lH
    ⟨⟨_,_,by rw[HNX.out,HNT.out,hadd];exact hrun.1,fun b=>Iff.rfl⟩,HK6.out.trans hrun.2⟩
   have c6:=HR6.out.bxl.cell
   have hrl:r.length≤2048:=by omega
   have hi1:IntKind.i64.wrap ((r.length:Int)+1 - 1)=(r.length:Int):=by rw[IntKind.wrap_i64];omega
   have hi2:IntKind.i64.wrap (r.length:Int)=(r.length:Int):=by rw[IntKind.wrap_i64];omega
   have hi3:(r.length:Int)<(r.length:Int)+1:=by omega
   have hi4:IntKind.u32.wrap (a.rn+1)=a.rn+1:=by rw[IntKind.wrap_u32];omega
   clear hrun hadd hlt HR6 HK6 hma hra HRN HOK HLO HNX HNT HME
   generalize r.length=rl at *
   gi_wp2
   exact⟨_,HN.out⟩
  | false =>
   have hadd:=xyj HLO.out
   have hba:Below w6.heap.size w6 (w6.alloc (.cells (eC e1) 147)):=xah _ _
   have hr7:=HR6.out.later hba
   have hea:=EAt.made w6 e1 147
   obtain⟨v8,w8,hr8,ho8,hg8,hl8⟩:=xjw (w6.alloc (.cells (eC e1) 147)) 84 w.heap.size (.slice av rows.length cv) rows e1 w6.heap.size 1 hr7.out hea (by omega) hr7.size
   have hb8:One w8 (w1.heap.size+1) (.slice av rows.length cv):=hr7.bxl.keep (hg8.block _ hr7.bxl.lt (fun e=>xdG hr7.out hr7.bxl e.symm))
   have happ:=hr7.app ho8 hg8 hl8
   have HN:Hid (RwI w w.heap.size w1.heap.size (w1.heap.size+1) (.pointer (some pa)) L (k+1) (xjf (w1.heap.size+1) v8 Sr) (w8.setCell ⟨w1.heap.size+1,0,none⟩ v8)∧KeepsS (xjf (w1.heap.size+1) (.slice av rows.length cv) Sq) (xjf (w1.heap.size+1) v8 Sr) W (w8.setCell ⟨w1.heap.size+1,0,none⟩ v8)):=lH
    ⟨⟨_,_,by rw[HNX.out,HNT.out,hadd];exact happ.1,fun b=>Iff.rfl⟩,(HK6.out.trans (KeepsS.below _ hba)).trans happ.2⟩
   obtain⟨a8,n8,p8,rfl⟩:∃ a n c,v8=.slice a n c:=by
    obtain⟨a,c,h,_⟩:=ho8.ensAt
    exact⟨a,_,c,h⟩
   have c6:=HR6.out.bxl.cell
   have c8:=hb8.cell
   have f8:=hb8.frz
   rw[HE1.out] at hr8
   unfold eC at hr8
   dsimp only at hr8
   clear happ hb8 ho8 hg8 hl8 hea hr7 hba hadd HR6 HK6 HRN HOK HLO HNX HNT HME
   gi_wp2_with (first|(gi_at_builtin;refine xv4 _ rfl _ _ _ rfl _ _ _ _ rfl rfl _ _ hr8 ?_)|fail)
   exact⟨_,HN.out⟩
 case done =>
  rintro D S W hD hSD ⟨vo,Sq,hR,hS⟩ - hDW
  rw[List.take_length] at hR
  obtain⟨av,cv,hvo⟩:∃ a c,vo=.slice a (xad L).1.length c:=by
   obtain⟨a,c,h,_⟩:=hR.out.ensAt
   exact⟨a,c,h⟩
  subst hvo
  have HR:=lH hR
  have HTX:=lH (fun X (hX:Below W.heap.size W X)=>xvw (.pointer (some pa)) (xad L).2 Sq X (hR.pool.belowG hX))
  have HCC:Hid (∀ w',Below W.heap.size W w'→(w'.cell? ⟨w1.heap.size+1,0,none⟩=some (.slice av (xad L).1.length cv)∧w'.cell? ⟨w1.heap.size,0,none⟩=some (.pointer (some pa)))∧Below W.heap.size W w'):=lH (fun X hX=>⟨⟨(hR.bxl.below hX).cell,(hR.bxp.below hX).cell⟩,hX⟩)
  have HD:=lH hDW
  have HDL:=lH hD
  clear hR hDW hS hD
  gi_wp2
  refine wpIn_wide.2 (wp_mono (xgT (S:=fun w'=>(w'.cell? ⟨w1.heap.size+1,0,none⟩=some (.slice av (xad L).1.length cv)∧w'.cell? ⟨w1.heap.size,0,none⟩=some (.pointer (some pa)))∧Below W.heap.size W w') (by kernel_rfl) (HCC.out _ (Below.drew (Below.refl _ _))) (fun hH0=>?_)) xgn)
  refine tK 0 47 hH0 ?_
  refine tK 1 48 hH0 ?_
  refine wpAnyH_ready (rs:=[2]) (by kernel_rfl) (by simp) ?_
  refine AllReadyH.cons rfl (fun K hK=>?_) AllReadyH.nil
  go_simp
  refine(HTX.out _ hH0.2).mono ?_
  rintro e w' ⟨rfl,hb⟩
  go_wp2_with fail
  refine hK.out _ _ (HCC.out _ (hH0.2.trans (hb.mono hH0.2.size))) (fun hH1=>?_)
  clear hK K hb hH0
  try simp only[Act.put,zsA,zsB,zsC]
  refine tK 3 2 hH1 ?_
  refine tK 4 3 hH1 ?_
  refine wpAnyH_done (by kernel_rfl) ?_ _
  dsimp only[xdT]
  gi_wp2
  have hK9:=(hH1.2.block D (xat HD.out)).trans HD.out
  have hR9:=(HR.out.later hH1.2).grown (grownBy_putObj' _ D (.deferred none)) (fun r e=>by cases e;exact⟨Nat.le_trans HR3.out.size HDL.out,_,hK9,rfl⟩)
  refine⟨by simp,.inl ⟨_,_,rfl,run_takeDeferred hK9,?_⟩⟩
  refine⟨_,results_tmp2 rfl _ _ _,?_⟩
  exact⟨_,rfl,hR9.out.ensAt,hR9.bel⟩
end Go.Proofs.YtjkgkmmkehnggaaGreatDoor
