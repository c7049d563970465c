/- aPa aVa. -/
import Derived.Test.YtjinnigjfopbcaaGreatDoorVa4
import Derived.Test.YtjinnigjfopbcaaGreatDoorVs
set_option maxHeartbeats 16000000
namespace Go.Proofs.YtjinnigjfopbcaaGreatDoor
set_option linter.unusedVariables false
set_option linter.unusedSimpArgs false
open Go.RowKit
set_option maxRecDepth 20000
theorem xhI (e:En) (w:World):Calls Tryz.prog 76 #[.agg (eC e)] w fun x w'=>x=.returned (.bool (decide (e.rn=0)))∧Below w.heap.size w w':=by
 obtain⟨i,o,l,r⟩:=e
 unfold eC
 dsimp only
 have hd:(r == 0)=decide (r=0):=by rw[Bool.eq_iff_iff];simp
 go_enter Tryz.func76,Tryz.ntmps76
 go_wp2_with fail
 go_ret
 exact⟨xfj (by first|exact hd|rfl|simp),by go_grown⟩
theorem xj5 (e:En) (w:World) (hm:xaY e):Calls Tryz.prog 154 #[.agg (eC e)] w fun x w'=>x=.returned (.int .u64 (wdN e))∧Below w.heap.size w w':=by
 have HP:=lH (fun W=>xhI e W)
 have H0:=EAt.made w e 74
 have HB:Below w.heap.size w (w.alloc (.cells (eC e) 74)):=(Below.refl _ _).alloc (Nat.le_refl _) _
 obtain⟨m0,m1,m2,m3⟩:=hm
 unfold eC at HB HP ⊢
 obtain⟨c0,c1,c2,c3⟩:=H0
 unfold eC at c0 c1 c2 c3
 by_cases h:e.rn=0
 ·have hw:Hid (wdN e=1):=lH (by unfold wdN;rw[if_pos h])
  have hd:decide (e.rn=0)=true:=by simpa using h
  rw[hd] at HP
  clear h hd
  go_enter Tryz.func154,Tryz.ntmps154
  go_wp2_with fail
  refine(HP.out _).mono ?_
  rintro x w1 ⟨rfl,hb⟩
  obtain⟨⟨k0,k1,k2,k3⟩,hU⟩:=xa6 hb ⟨⟨c0,c1,c2,c3⟩,HB⟩
  have HU:=lH hU
  clear hb c0 c1 c2 c3 HB hU
  go_wp2_with fail
  go_ret
  exact⟨xe2 hw.out.symm,HU.out⟩
 ·have hw:Hid (wdN e=e.rn):=lH (by unfold wdN;rw[if_neg h])
  have hd:decide (e.rn=0)=false:=by simpa using h
  have hwr:IntKind.u64.wrap e.rn=e.rn:=by rw[IntKind.wrap_u64] <;> omega
  rw[hd] at HP
  clear h hd
  go_enter Tryz.func154,Tryz.ntmps154
  go_wp2_with fail
  refine(HP.out _).mono ?_
  rintro x w1 ⟨rfl,hb⟩
  obtain⟨⟨k0,k1,k2,k3⟩,hU⟩:=xa6 hb ⟨⟨c0,c1,c2,c3⟩,HB⟩
  have HU:=lH hU
  clear hb c0 c1 c2 c3 HB hU
  go_wp2_with fail
  go_ret
  exact⟨xe2 hw.out.symm,HU.out⟩
set_option maxRecDepth 20000 in
theorem xdn (e:En) (w:World) (hm:xaY e):Calls Tryz.prog 75 #[.agg (eC e)] w fun x w'=>x=.returned (.int .i64 (ckN e))∧Below w.heap.size w w':=by
 have HW:=lH (fun W=>xj5 e W hm)
 obtain⟨m0,m1,m2,m3⟩:=hm
 have H0:=EAt.made w e 74
 have HB:Below w.heap.size w (w.alloc (.cells (eC e) 74)):=(Below.refl _ _).alloc (Nat.le_refl _) _
 have HS0:=xa6 (Below.drew (Below.refl _ _)) ⟨H0,HB⟩
 have hck:Hid (ckN e=if e.ln=0 then 2 else if cnN≤e.id∨cnN<e.id+wdN e then 8 else if 1099511627776<e.off∨1099511627776<e.off+e.ln then 8 else 0):=lH rfl
 have hwd:=xjA e m3.1
 have hwu:wdN e≤4294967295:=by unfold wdN;split <;> omega
 obtain⟨R,hR⟩:∃ R,ckN e=R:=⟨_,rfl⟩
 rw[hR] at hck ⊢
 clear hR
 obtain⟨d,hd⟩:∃ d,wdN e=d:=⟨_,rfl⟩
 rw[hd] at HW hck hwd hwu
 clear hd
 unfold cnN at hck
 by_cases h1:e.ln=0
 ·have hR:R=2:=by rw[hck.out,if_pos h1]
  subst hR
  have hl:(e.ln == 0)=true:=by simpa using h1
  clear HW HS0 hck
  unfold eC at HB ⊢
  go_enter Tryz.func75,Tryz.ntmps75
  go_wp2_with fail
  go_ret
  exact⟨rfl,by go_grown⟩
 have hl:(e.ln == 0)=false:=by simpa using h1
 rw[if_neg h1] at hck
 have hw:IntKind.u64.wrap (6004799503160661 - d)=6004799503160661 - d:=by rw[IntKind.wrap_u64] <;> omega
 have hwl:IntKind.u64.wrap e.ln=e.ln:=by rw[IntKind.wrap_u64] <;> omega
 have hwo:IntKind.u64.wrap (1099511627776 - e.ln)=1099511627776 - e.ln:=by rw[IntKind.wrap_u64] <;> omega
 by_cases h2:6004799503160661 - d<e.id
 ·have hR:R=8:=by rw[hck.out,if_pos (.inr (by omega))]
  subst hR
  have hi:decide (6004799503160661 - d<e.id)=true:=by simpa using h2
  clear hck
  unfold eC at HB HS0 HW ⊢
  go_enter Tryz.func75,Tryz.ntmps75
  go_upto_region 3 with fail
  refine wp_region_held_drew (S:=fun w'=>(w'.cell? ⟨w.heap.size,0,none⟩=some (.int .u64 e.id)∧w'.cell? ⟨w.heap.size,1,none⟩=some (.int .u64 e.off)∧w'.cell? ⟨w.heap.size,2,none⟩=some (.int .u32 e.ln)∧w'.cell? ⟨w.heap.size,3,none⟩=some (.int .u32 e.rn))∧Below w.heap.size w w') (by kernel_rfl) HS0 (fun hH0=>?_)
  refine tK 0 6 hH0 ?_
  refine tK 1 7 hH0 ?_
  refine tK 2 8 hH0 ?_
  refine wpAnyH_ready (rs:=[3]) (by kernel_rfl) (by simp) ?_
  refine AllReadyH.cons rfl (fun K hK=>?_) AllReadyH.nil
  go_simp
  refine(HW.out _).mono ?_
  rintro e w' ⟨rfl,hb⟩
  go_wp2_with fail
  refine hK.out _ _ (xa6 hb hH0) (fun hH1=>?_)
  clear hK K hb hH0
  try simp only[Act.put,zsA,zsB,zsC]
  refine tK 4 10 hH1 ?_
  refine tK 5 11 hH1 ?_
  refine tK 6 12 hH1 ?_
  refine tU 7 13 hH1 ?_
  refine tU 8 14 hH1 ?_
  refine tU 9 15 hH1 ?_
  refine tU 10 16 hH1 ?_
  refine tU 11 17 hH1 ?_
  refine tU 12 18 hH1 ?_
  refine tU 13 19 hH1 ?_
  refine tK 14 20 hH1 ?_
  refine wpAnyH_done (by kernel_rfl) ?_ _
  go_wp2_with fail
  go_ret
  exact⟨rfl,hH1.2⟩
 have hi:decide (6004799503160661 - d<e.id)=false:=by simpa using h2
 rw[if_neg (by omega)] at hck
 by_cases h4:1099511627776 - e.ln<e.off
 ·have hR:R=8:=by rw[hck.out,if_pos (.inr (by omega))]
  subst hR
  have hk:decide (1099511627776 - e.ln<e.off)=true:=by simpa using h4
  clear hck
  unfold eC at HB HS0 HW ⊢
  go_enter Tryz.func75,Tryz.ntmps75
  go_upto_region 3 with fail
  refine wp_region_held_drew (S:=fun w'=>(w'.cell? ⟨w.heap.size,0,none⟩=some (.int .u64 e.id)∧w'.cell? ⟨w.heap.size,1,none⟩=some (.int .u64 e.off)∧w'.cell? ⟨w.heap.size,2,none⟩=some (.int .u32 e.ln)∧w'.cell? ⟨w.heap.size,3,none⟩=some (.int .u32 e.rn))∧Below w.heap.size w w') (by kernel_rfl) HS0 (fun hH0=>?_)
  refine tK 0 6 hH0 ?_
  refine tK 1 7 hH0 ?_
  refine tK 2 8 hH0 ?_
  refine wpAnyH_ready (rs:=[3]) (by kernel_rfl) (by simp) ?_
  refine AllReadyH.cons rfl (fun K hK=>?_) AllReadyH.nil
  go_simp
  refine(HW.out _).mono ?_
  rintro e w' ⟨rfl,hb⟩
  go_wp2_with fail
  refine hK.out _ _ (xa6 hb hH0) (fun hH1=>?_)
  clear hK K hb hH0
  try simp only[Act.put,zsA,zsB,zsC]
  refine tK 4 10 hH1 ?_
  refine tK 5 11 hH1 ?_
  refine tK 6 12 hH1 ?_
  refine tK 7 13 hH1 ?_
  refine tK 8 14 hH1 ?_
  refine tK 9 15 hH1 ?_
  refine tK 10 16 hH1 ?_
  refine tK 11 17 hH1 ?_
  refine tK 12 18 hH1 ?_
  refine tK 13 19 hH1 ?_
  refine tK 14 20 hH1 ?_
  refine wpAnyH_done (by kernel_rfl) ?_ _
  obtain⟨⟨c0,c1,c2,c3⟩,hU⟩:=hH1
  have HU:=lH hU
  clear hU
  go_wp2_with fail
  go_ret
  exact⟨rfl,HU.out⟩
 ·have hR:R=0:=by rw[hck.out,if_neg (by omega)]
  subst hR
  have hk:decide (1099511627776 - e.ln<e.off)=false:=by simpa using h4
  clear hck
  unfold eC at HB HS0 HW ⊢
  go_enter Tryz.func75,Tryz.ntmps75
  go_upto_region 3 with fail
  refine wp_region_held_drew (S:=fun w'=>(w'.cell? ⟨w.heap.size,0,none⟩=some (.int .u64 e.id)∧w'.cell? ⟨w.heap.size,1,none⟩=some (.int .u64 e.off)∧w'.cell? ⟨w.heap.size,2,none⟩=some (.int .u32 e.ln)∧w'.cell? ⟨w.heap.size,3,none⟩=some (.int .u32 e.rn))∧Below w.heap.size w w') (by kernel_rfl) HS0 (fun hH0=>?_)
  refine tK 0 6 hH0 ?_
  refine tK 1 7 hH0 ?_
  refine tK 2 8 hH0 ?_
  refine wpAnyH_ready (rs:=[3]) (by kernel_rfl) (by simp) ?_
  refine AllReadyH.cons rfl (fun K hK=>?_) AllReadyH.nil
  go_simp
  refine(HW.out _).mono ?_
  rintro e w' ⟨rfl,hb⟩
  go_wp2_with fail
  refine hK.out _ _ (xa6 hb hH0) (fun hH1=>?_)
  clear hK K hb hH0
  try simp only[Act.put,zsA,zsB,zsC]
  refine tK 4 10 hH1 ?_
  refine tK 5 11 hH1 ?_
  refine tK 6 12 hH1 ?_
  refine tK 7 13 hH1 ?_
  refine tK 8 14 hH1 ?_
  refine tK 9 15 hH1 ?_
  refine tK 10 16 hH1 ?_
  refine tK 11 17 hH1 ?_
  refine tK 12 18 hH1 ?_
  refine tK 13 19 hH1 ?_
  refine tK 14 20 hH1 ?_
  refine wpAnyH_done (by kernel_rfl) ?_ _
  obtain⟨⟨c0,c1,c2,c3⟩,hU⟩:=hH1
  have HU:=lH hU
  clear hU
  go_wp2_with fail
  go_ret
  exact⟨rfl,HU.out⟩
set_option maxRecDepth 20000 in
theorem xga (e:En) (w:World) (hm:xaY e):Calls Tryz.prog 77 #[.agg (eC e)] w fun x w'=>x=.returned (.int .u64 (laN e))∧Below w.heap.size w w':=by
 have HW:=lH (fun W=>xj5 e W hm)
 have HC:=lH (fun W=>xdn e W hm)
 have H0:=EAt.made w e 74
 have HB:Below w.heap.size w (w.alloc (.cells (eC e) 74)):=(Below.refl _ _).alloc (Nat.le_refl _) _
 have hwd:=xjA e hm.2.2.2.1
 by_cases h0:ckN e=0
 ·have hb:=xhO e h0
  have hi:=hm.1
  have hw1:IntKind.u64.wrap (e.id+wdN e)=e.id+wdN e:=by rw[IntKind.wrap_u64] <;> omega
  have hw2:IntKind.u64.wrap (e.id+wdN e - 1)=e.id+wdN e - 1:=by rw[IntKind.wrap_u64] <;> omega
  have hla:Hid (e.id+wdN e - 1=laN e):=lH (by unfold laN;rw[if_pos h0])
  rw[h0] at HC
  obtain⟨d,hd⟩:∃ d,wdN e=d:=⟨_,rfl⟩
  rw[hd] at HW hw1 hw2 hla
  clear hd h0 hb hm hwd
  unfold eC at HB HC HW ⊢
  obtain⟨c0,c1,c2,c3⟩:=H0
  unfold eC at c0 c1 c2 c3
  go_enter Tryz.func77,Tryz.ntmps77
  go_wp2_with fail
  refine(HC.out _).mono ?_
  rintro x w1 ⟨rfl,hb⟩
  have HS1:=xa6 hb ⟨⟨c0,c1,c2,c3⟩,HB⟩
  have HS0:=xa6 (Below.drew (Below.refl _ _)) HS1
  clear hb c0 c1 c2 c3 HB HS1
  go_upto_region 3 with fail
  refine wp_region_held_drew (S:=fun w'=>(w'.cell? ⟨w.heap.size,0,none⟩=some (.int .u64 e.id)∧w'.cell? ⟨w.heap.size,1,none⟩=some (.int .u64 e.off)∧w'.cell? ⟨w.heap.size,2,none⟩=some (.int .u32 e.ln)∧w'.cell? ⟨w.heap.size,3,none⟩=some (.int .u32 e.rn))∧Below w.heap.size w w') (by kernel_rfl) HS0 (fun hH0=>?_)
  refine tK 0 6 hH0 ?_
  refine tK 1 7 hH0 ?_
  refine tK 2 8 hH0 ?_
  refine wpAnyH_ready (rs:=[3]) (by kernel_rfl) (by simp) ?_
  refine AllReadyH.cons rfl (fun K hK=>?_) AllReadyH.nil
  go_simp
  refine(HW.out _).mono ?_
  rintro e w' ⟨rfl,hb⟩
  go_wp2_with fail
  refine hK.out _ _ (xa6 hb hH0) (fun hH1=>?_)
  clear hK K hb hH0
  try simp only[Act.put,zsA,zsB,zsC]
  refine tK 4 10 hH1 ?_
  refine tK 5 11 hH1 ?_
  refine tK 6 2 hH1 ?_
  refine wpAnyH_done (by kernel_rfl) ?_ _
  go_wp2_with fail
  go_ret
  exact⟨xe2 hla.out,hH1.2⟩
 ·have hla:laN e=0:=by unfold laN;rw[if_neg h0]
  rw[hla]
  obtain⟨r,hr⟩:∃ r,ckN e=r:=⟨_,rfl⟩
  rw[hr] at HC h0
  have hne:(r != 0)=true:=by simp only[bne_iff_ne,ne_eq];exact h0
  clear hr h0 hm hla hwd HW
  unfold eC at HB HC ⊢
  obtain⟨c0,c1,c2,c3⟩:=H0
  unfold eC at c0 c1 c2 c3
  go_enter Tryz.func77,Tryz.ntmps77
  go_wp2_with fail
  refine(HC.out _).mono ?_
  rintro x w1 ⟨rfl,hb⟩
  have HS1:=xa6 hb ⟨⟨c0,c1,c2,c3⟩,HB⟩
  have HU:=lH HS1.2
  clear hb c0 c1 c2 c3 HB HS1
  go_wp2_with fail
  go_ret
  exact⟨rfl,HU.out⟩
theorem xrZ (e:En) (w:World):Calls Tryz.prog 204 #[.agg (eC e)] w fun x w'=>x=.returned (.bool (decide (e.rn=0)))∧Below w.heap.size w w':=by
 obtain⟨i,o,l,r⟩:=e
 unfold eC
 dsimp only
 have hd:(r == 0)=decide (r=0):=by rw[Bool.eq_iff_iff];simp
 go_enter Tryz.func204,Tryz.ntmps204
 go_wp2_with fail
 go_ret
 exact⟨xfj (by first|exact hd|rfl|simp),by go_grown⟩
def xrP (e:En) (n d:Nat):Int:=if e.rn=0 then 14 else if (d:Int)<e.off+e.ln then 8 else if 2048<(n:Int)+e.rn then 21 else if 65536<e.ln then 5 else 0
theorem xnO (e:En) (n:Nat) (d:ByteArray) (w:World) (hm:xaY e) (hc:e.off+e.ln≤9223372036854775807) (hn:n≤1000000) (hd:d.size≤1000000000) :
  Calls Tryz.prog 125 #[.agg (eC e),.int .i64 n,.string d] w fun x w'=>x=.returned (.int .i64 (xrP e n d.size))∧Below w.heap.size w w':=by
 have HP:=lH (fun W=>xrZ e W)
 have H0:=EAt.made w e 74
 have HB:Below w.heap.size w (w.alloc (.cells (eC e) 74)):=(Below.refl _ _).alloc (Nat.le_refl _) _
 obtain⟨m0,m1,m2,m3⟩:=hm
 unfold eC at HB HP ⊢
 obtain⟨c0,c1,c2,c3⟩:=H0
 unfold eC at c0 c1 c2 c3
 have hw1:IntKind.u64.wrap e.rn=e.rn:=by rw[IntKind.wrap_u64];omega
 have hw2:IntKind.u64.wrap ((n:Int)+e.rn)=(n:Int)+e.rn:=by rw[IntKind.wrap_u64];omega
 have hw3:IntKind.u64.wrap e.ln=e.ln:=by rw[IntKind.wrap_u64];omega
 have hw4:IntKind.u64.wrap (e.off+e.ln)=e.off+e.ln:=by rw[IntKind.wrap_u64];omega
 have hw5:IntKind.u64.wrap (d.size:Int)=(d.size:Int):=by rw[IntKind.wrap_u64];omega
 have hw6:IntKind.u64.wrap (n:Int)=(n:Int):=by rw[IntKind.wrap_u64];omega
 have HR:Hid (xrP e n d.size=if e.rn=0 then 14 else if (d.size:Int)<e.off+e.ln then 8 else if 2048<(n:Int)+e.rn then 21 else if 65536<e.ln then 5 else 0):=lH rfl
 generalize xrP e n d.size=R at *
 by_cases h1:e.rn=0
 ·have HRR:=lH (HR.out.trans (if_pos h1))
  have hd1:decide (e.rn=0)=true:=by simpa using h1
  rw[hd1] at HP
  clear h1 hd1 HR
  go_enter Tryz.func125,Tryz.ntmps125
  go_wp2_with fail
  refine(HP.out _).mono ?_
  rintro x w1 ⟨rfl,hb⟩
  have HU:=lH (xa6 hb ⟨⟨c0,c1,c2,c3⟩,HB⟩).2
  clear hb c0 c1 c2 c3 HB
  go_wp2_with fail
  go_ret
  exact⟨by rw[HRR.out];rfl,HU.out⟩
 have hd1:decide (e.rn=0)=false:=by simpa using h1
 rw[hd1] at HP
 have HR2:=lH (HR.out.trans (if_neg h1))
 clear HR hd1
 by_cases h2:(d.size:Int)<e.off+e.ln
 ·have HRR:=lH (HR2.out.trans (if_pos h2))
  clear HR2 h1
  go_enter Tryz.func125,Tryz.ntmps125
  go_wp2_with fail
  refine(HP.out _).mono ?_
  rintro x w1 ⟨rfl,hb⟩
  obtain⟨⟨k0,k1,k2,k3⟩,hU⟩:=xa6 hb ⟨⟨c0,c1,c2,c3⟩,HB⟩
  have HU:=lH hU
  clear hb c0 c1 c2 c3 HB hU
  go_wp2_with fail
  go_ret
  exact⟨by rw[HRR.out];rfl,HU.out⟩
 have HR3:=lH (HR2.out.trans (if_neg h2))
 clear HR2
 by_cases h3:2048<(n:Int)+e.rn
 ·have HRR:=lH (HR3.out.trans (if_pos h3))
  clear HR3 h1
  go_enter Tryz.func125,Tryz.ntmps125
  go_wp2_with fail
  refine(HP.out _).mono ?_
  rintro x w1 ⟨rfl,hb⟩
  obtain⟨⟨k0,k1,k2,k3⟩,hU⟩:=xa6 hb ⟨⟨c0,c1,c2,c3⟩,HB⟩
  have HU:=lH hU
  clear hb c0 c1 c2 c3 HB hU
  go_wp2_with fail
  go_ret
  exact⟨by rw[HRR.out];rfl,HU.out⟩
 have HR4:=lH (HR3.out.trans (if_neg h3))
 clear HR3
 by_cases h4:65536<e.ln
 ·have HRR:=lH (HR4.out.trans (if_pos h4))
  clear HR4 h1
  go_enter Tryz.func125,Tryz.ntmps125
  go_wp2_with fail
  refine(HP.out _).mono ?_
  rintro x w1 ⟨rfl,hb⟩
  obtain⟨⟨k0,k1,k2,k3⟩,hU⟩:=xa6 hb ⟨⟨c0,c1,c2,c3⟩,HB⟩
  have HU:=lH hU
  clear hb c0 c1 c2 c3 HB hU
  go_wp2_with fail
  go_ret
  exact⟨by rw[HRR.out];rfl,HU.out⟩
 have HRR:=lH (HR4.out.trans (if_neg h4))
 clear HR4 h1
 go_enter Tryz.func125,Tryz.ntmps125
 go_wp2_with fail
 refine(HP.out _).mono ?_
 rintro x w1 ⟨rfl,hb⟩
 obtain⟨⟨k0,k1,k2,k3⟩,hU⟩:=xa6 hb ⟨⟨c0,c1,c2,c3⟩,HB⟩
 have HU:=lH hU
 clear hb c0 c1 c2 c3 HB hU
 go_wp2_with fail
 go_ret
 exact⟨by rw[HRR.out];rfl,HU.out⟩
theorem xtb (e a:En) (w:World) (he:xaY e) (ha:xaY a):Calls Tryz.prog 132 #[.agg (eC e),.agg (eC a)] w fun x w'=>x=.returned (.bool (xvJ a e))∧Below w.heap.size w w':=by
 have HL:=lH (fun W=>xga a W ha)
 have hla:0≤laN a∧laN a≤6004799503160660:=by
  by_cases h:ckN a=0
  ·have:=xuW a ha h
   unfold xaY at ha
   omega
  ·unfold laN
   rw[if_neg h]
   omega
 have HR:Hid (xvJ a e=decide (e.id=laN a+1∧a.off=e.off∧a.ln=e.ln)):=lH rfl
 generalize xvJ a e=R at *
 generalize laN a=la at *
 have hw:IntKind.u64.wrap (la+1)=la+1:=by rw[IntKind.wrap_u64];omega
 have hea:=EAt.made w e 233
 have heb:=EAt.made (w.alloc (.cells (eC e) 233)) a 233
 have hea2:=hea.later (w':=(w.alloc (.cells (eC e) 233)).alloc (.cells (eC a) 233)) ((Below.refl _ _).alloc (Nat.le_refl _) _)
 have hbw:Below w.heap.size w ((w.alloc (.cells (eC e) 233)).alloc (.cells (eC a) 233)):=((Below.refl _ _).alloc (Nat.le_refl _) _).alloc (by simp) _
 simp only[World.size_alloc] at heb
 unfold eC at HL hea2 heb hbw ⊢
 obtain⟨W,hW⟩:∃ W,(w.alloc (.cells #[.int .u64 e.id,.int .u64 e.off,.int .u32 e.ln,.int .u32 e.rn] 233)).alloc (.cells #[.int .u64 a.id,.int .u64 a.off,.int .u32 a.ln,.int .u32 a.rn] 233)=W:=⟨_,rfl⟩
 rw[hW] at hea2 heb hbw
 have HK:Hid (∀ w',Below W.heap.size W w'→((w'.cell? ⟨w.heap.size,0,none⟩=some (.int .u64 e.id)∧w'.cell? ⟨w.heap.size,1,none⟩=some (.int .u64 e.off)∧w'.cell? ⟨w.heap.size,2,none⟩=some (.int .u32 e.ln)∧w'.cell? ⟨w.heap.size,3,none⟩=some (.int .u32 e.rn))∧(w'.cell? ⟨w.heap.size+1,0,none⟩=some (.int .u64 a.id)∧w'.cell? ⟨w.heap.size+1,1,none⟩=some (.int .u64 a.off)∧w'.cell? ⟨w.heap.size+1,2,none⟩=some (.int .u32 a.ln)∧w'.cell? ⟨w.heap.size+1,3,none⟩=some (.int .u32 a.rn)))∧Below W.heap.size W w'):=lH (fun w' h=>⟨⟨hea2.later h,heb.later h⟩,h⟩)
 have HB:=lH hbw
 clear hea hea2 heb hbw he ha hla
 by_cases d1:e.id=la+1
 ·by_cases d2:e.off=a.off
  ·by_cases d3:e.ln=a.ln
   ·have HRR:Hid (R=true):=lH (by rw[HR.out,decide_eq_true_iff];exact⟨d1,d2.symm,d3.symm⟩)
    have e1:(e.id == la+1)=true:=by simpa using d1
    have e2:(e.off == a.off)=true:=by simpa using d2
    have e3:(e.ln == a.ln)=true:=by simpa using d3
    clear HR d1 d2 d3
    go_enter Tryz.func132,Tryz.ntmps132
    go_wp2_with fail
    refine wp_region_held_drew (S:=fun w'=>((w'.cell? ⟨w.heap.size,0,none⟩=some (.int .u64 e.id)∧w'.cell? ⟨w.heap.size,1,none⟩=some (.int .u64 e.off)∧w'.cell? ⟨w.heap.size,2,none⟩=some (.int .u32 e.ln)∧w'.cell? ⟨w.heap.size,3,none⟩=some (.int .u32 e.rn))∧(w'.cell? ⟨w.heap.size+1,0,none⟩=some (.int .u64 a.id)∧w'.cell? ⟨w.heap.size+1,1,none⟩=some (.int .u64 a.off)∧w'.cell? ⟨w.heap.size+1,2,none⟩=some (.int .u32 a.ln)∧w'.cell? ⟨w.heap.size+1,3,none⟩=some (.int .u32 a.rn)))∧Below W.heap.size W w') (by kernel_rfl) (HK.out _ (Below.drew (Below.refl _ _))) (fun hH0=>?_)
    refine tK 0 5 hH0 ?_
    refine tK 1 6 hH0 ?_
    refine tK 2 7 hH0 ?_
    refine wpAnyH_ready (rs:=[3]) (by kernel_rfl) (by simp) ?_
    refine AllReadyH.cons rfl (fun K hK=>?_) AllReadyH.nil
    go_simp
    refine(HL.out _).mono ?_
    rintro e w' ⟨rfl,hb⟩
    go_wp2_with fail
    refine hK.out _ _ (HK.out _ (hH0.2.trans (hb.mono hH0.2.size))) (fun hH1=>?_)
    clear hK K hb hH0
    try simp only[Act.put,zsA,zsB,zsC]
    refine tK 4 9 hH1 ?_
    refine tK 5 10 hH1 ?_
    refine tK 6 11 hH1 ?_
    refine tK 7 12 hH1 ?_
    refine tK 8 13 hH1 ?_
    refine tK 9 14 hH1 ?_
    refine tK 10 15 hH1 ?_
    refine tK 11 16 hH1 ?_
    refine tK 12 17 hH1 ?_
    refine tK 13 18 hH1 ?_
    refine tK 14 19 hH1 ?_
    refine tK 15 20 hH1 ?_
    refine tK 16 21 hH1 ?_
    refine tK 17 22 hH1 ?_
    refine tK 18 23 hH1 ?_
    refine tK 19 24 hH1 ?_
    refine tK 20 4 hH1 ?_
    refine wpAnyH_done (by kernel_rfl) ?_ _
    go_wp2_with fail
    go_ret
    exact⟨by rw[HRR.out];first|rfl|simp[*],HB.out.trans (hH1.2.mono HB.out.size)⟩
   ·have HRR:Hid (R=false):=lH (by rw[HR.out,decide_eq_false_iff_not];exact fun h=>d3 h.2.2.symm)
    have e1:(e.id == la+1)=true:=by simpa using d1
    have e2:(e.off == a.off)=true:=by simpa using d2
    have e3:(e.ln == a.ln)=false:=by simpa using d3
    clear HR d1 d2 d3
    go_enter Tryz.func132,Tryz.ntmps132
    go_wp2_with fail
    refine wp_region_held_drew (S:=fun w'=>((w'.cell? ⟨w.heap.size,0,none⟩=some (.int .u64 e.id)∧w'.cell? ⟨w.heap.size,1,none⟩=some (.int .u64 e.off)∧w'.cell? ⟨w.heap.size,2,none⟩=some (.int .u32 e.ln)∧w'.cell? ⟨w.heap.size,3,none⟩=some (.int .u32 e.rn))∧(w'.cell? ⟨w.heap.size+1,0,none⟩=some (.int .u64 a.id)∧w'.cell? ⟨w.heap.size+1,1,none⟩=some (.int .u64 a.off)∧w'.cell? ⟨w.heap.size+1,2,none⟩=some (.int .u32 a.ln)∧w'.cell? ⟨w.heap.size+1,3,none⟩=some (.int .u32 a.rn)))∧Below W.heap.size W w') (by kernel_rfl) (HK.out _ (Below.drew (Below.refl _ _))) (fun hH0=>?_)
    refine tK 0 5 hH0 ?_
    refine tK 1 6 hH0 ?_
    refine tK 2 7 hH0 ?_
    refine wpAnyH_ready (rs:=[3]) (by kernel_rfl) (by simp) ?_
    refine AllReadyH.cons rfl (fun K hK=>?_) AllReadyH.nil
    go_simp
    refine(HL.out _).mono ?_
    rintro e w' ⟨rfl,hb⟩
    go_wp2_with fail
    refine hK.out _ _ (HK.out _ (hH0.2.trans (hb.mono hH0.2.size))) (fun hH1=>?_)
    clear hK K hb hH0
    try simp only[Act.put,zsA,zsB,zsC]
    refine tK 4 9 hH1 ?_
    refine tK 5 10 hH1 ?_
    refine tK 6 11 hH1 ?_
    refine tK 7 12 hH1 ?_
    refine tK 8 13 hH1 ?_
    refine tK 9 14 hH1 ?_
    refine tK 10 15 hH1 ?_
    refine tK 11 16 hH1 ?_
    refine tK 12 17 hH1 ?_
    refine tK 13 18 hH1 ?_
    refine tK 14 19 hH1 ?_
    refine tK 15 20 hH1 ?_
    refine tK 16 21 hH1 ?_
    refine tK 17 22 hH1 ?_
    refine tK 18 23 hH1 ?_
    refine tK 19 24 hH1 ?_
    refine tK 20 4 hH1 ?_
    refine wpAnyH_done (by kernel_rfl) ?_ _
    go_wp2_with fail
    go_ret
    exact⟨by rw[HRR.out];first|rfl|simp[*],HB.out.trans (hH1.2.mono HB.out.size)⟩
  ·have HRR:Hid (R=false):=lH (by rw[HR.out,decide_eq_false_iff_not];exact fun h=>d2 h.2.1.symm)
   have e1:(e.id == la+1)=true:=by simpa using d1
   have e2:(e.off == a.off)=false:=by simpa using d2
   clear HR d1 d2
   go_enter Tryz.func132,Tryz.ntmps132
   go_wp2_with fail
   refine wp_region_held_drew (S:=fun w'=>((w'.cell? ⟨w.heap.size,0,none⟩=some (.int .u64 e.id)∧w'.cell? ⟨w.heap.size,1,none⟩=some (.int .u64 e.off)∧w'.cell? ⟨w.heap.size,2,none⟩=some (.int .u32 e.ln)∧w'.cell? ⟨w.heap.size,3,none⟩=some (.int .u32 e.rn))∧(w'.cell? ⟨w.heap.size+1,0,none⟩=some (.int .u64 a.id)∧w'.cell? ⟨w.heap.size+1,1,none⟩=some (.int .u64 a.off)∧w'.cell? ⟨w.heap.size+1,2,none⟩=some (.int .u32 a.ln)∧w'.cell? ⟨w.heap.size+1,3,none⟩=some (.int .u32 a.rn)))∧Below W.heap.size W w') (by kernel_rfl) (HK.out _ (Below.drew (Below.refl _ _))) (fun hH0=>?_)
   refine tK 0 5 hH0 ?_
   refine tK 1 6 hH0 ?_
   refine tK 2 7 hH0 ?_
   refine wpAnyH_ready (rs:=[3]) (by kernel_rfl) (by simp) ?_
   refine AllReadyH.cons rfl (fun K hK=>?_) AllReadyH.nil
   go_simp
   refine(HL.out _).mono ?_
   rintro e w' ⟨rfl,hb⟩
   go_wp2_with fail
   refine hK.out _ _ (HK.out _ (hH0.2.trans (hb.mono hH0.2.size))) (fun hH1=>?_)
   clear hK K hb hH0
   try simp only[Act.put,zsA,zsB,zsC]
   refine tK 4 9 hH1 ?_
   refine tK 5 10 hH1 ?_
   refine tK 6 11 hH1 ?_
   refine tK 7 12 hH1 ?_
   refine tK 8 13 hH1 ?_
   refine tK 9 14 hH1 ?_
   refine tK 10 15 hH1 ?_
   refine tK 11 16 hH1 ?_
   refine tK 12 17 hH1 ?_
   refine tK 13 18 hH1 ?_
   refine tU 14 19 hH1 ?_
   refine tU 15 20 hH1 ?_
   refine tU 16 21 hH1 ?_
   refine tU 17 22 hH1 ?_
   refine tU 18 23 hH1 ?_
   refine tK 19 24 hH1 ?_
   refine tK 20 4 hH1 ?_
   refine wpAnyH_done (by kernel_rfl) ?_ _
   go_wp2_with fail
   go_ret
   exact⟨by rw[HRR.out];first|rfl|simp[*],HB.out.trans (hH1.2.mono HB.out.size)⟩
 ·have HRR:Hid (R=false):=lH (by rw[HR.out,decide_eq_false_iff_not];exact fun h=>d1 h.1)
  have e1:(e.id == la+1)=false:=by simpa using d1
  clear HR d1
  go_enter Tryz.func132,Tryz.ntmps132
  go_wp2_with fail
  refine wp_region_held_drew (S:=fun w'=>((w'.cell? ⟨w.heap.size,0,none⟩=some (.int .u64 e.id)∧w'.cell? ⟨w.heap.size,1,none⟩=some (.int .u64 e.off)∧w'.cell? ⟨w.heap.size,2,none⟩=some (.int .u32 e.ln)∧w'.cell? ⟨w.heap.size,3,none⟩=some (.int .u32 e.rn))∧(w'.cell? ⟨w.heap.size+1,0,none⟩=some (.int .u64 a.id)∧w'.cell? ⟨w.heap.size+1,1,none⟩=some (.int .u64 a.off)∧w'.cell? ⟨w.heap.size+1,2,none⟩=some (.int .u32 a.ln)∧w'.cell? ⟨w.heap.size+1,3,none⟩=some (.int .u32 a.rn)))∧Below W.heap.size W w') (by kernel_rfl) (HK.out _ (Below.drew (Below.refl _ _))) (fun hH0=>?_)
  refine tK 0 5 hH0 ?_
  refine tK 1 6 hH0 ?_
  refine tK 2 7 hH0 ?_
  refine wpAnyH_ready (rs:=[3]) (by kernel_rfl) (by simp) ?_
  refine AllReadyH.cons rfl (fun K hK=>?_) AllReadyH.nil
  go_simp
  refine(HL.out _).mono ?_
  rintro e w' ⟨rfl,hb⟩
  go_wp2_with fail
  refine hK.out _ _ (HK.out _ (hH0.2.trans (hb.mono hH0.2.size))) (fun hH1=>?_)
  clear hK K hb hH0
  try simp only[Act.put,zsA,zsB,zsC]
  refine tK 4 9 hH1 ?_
  refine tK 5 10 hH1 ?_
  refine tK 6 11 hH1 ?_
  refine tU 7 12 hH1 ?_
  refine tU 8 13 hH1 ?_
  refine tU 9 14 hH1 ?_
  refine tU 10 15 hH1 ?_
  refine tU 11 16 hH1 ?_
  refine tK 12 17 hH1 ?_
  refine tK 13 18 hH1 ?_
  refine tU 14 19 hH1 ?_
  refine tU 15 20 hH1 ?_
  refine tU 16 21 hH1 ?_
  refine tU 17 22 hH1 ?_
  refine tU 18 23 hH1 ?_
  refine tK 19 24 hH1 ?_
  refine tK 20 4 hH1 ?_
  refine wpAnyH_done (by kernel_rfl) ?_ _
  go_wp2_with fail
  go_ret
  exact⟨by rw[HRR.out];first|rfl|simp[*],HB.out.trans (hH1.2.mono HB.out.size)⟩
end Go.Proofs.YtjinnigjfopbcaaGreatDoor
