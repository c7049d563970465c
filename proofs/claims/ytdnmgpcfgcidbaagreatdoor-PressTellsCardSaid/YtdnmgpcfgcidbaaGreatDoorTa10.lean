/- aPc aA aFb aFc aGd aGj aGt13 aLs aLz aLg aMc aMg aHm. -/
import Derived.Test.YtdnmgpcfgcidbaaGreatDoorTa9
import Derived.Test.YtdnmgpcfgcidbaaGreatDoorTa8
import Derived.Test.YtdnmgpcfgcidbaaGreatDoorTs
namespace Go.Proofs.YtdnmgpcfgcidbaaGreatDoor
set_option linter.unusedVariables false
set_option linter.unusedSimpArgs false
open Go.RowKit
set_option maxRecDepth 20000
set_option maxRecDepth 20000 in
set_option maxHeartbeats 1000000 in
theorem prow_any (v:Value) (l:List En) (w:World) (hv:EnsAt w v l) (hm:MaysN l):Calls Tryz.prog 54 #[v] w fun x w'=>x=.returned (.int .i64 (rowN l))∧Below w.heap.size w w':=by
 obtain⟨al,cap,rfl,hcap,_,hc⟩:=hv
 have HC:=Lib.hid hc
 have HM:=Lib.hid hm
 obtain⟨R,hR⟩:∃ R,rowN l=R:=⟨_,rfl⟩
 rw[hR]
 clear hc hm
 by_cases h4:4096<l.length
 ·have hR2:R=21:=by rw[← hR,rowN,if_pos h4]
  subst hR2
  have hd:decide (4096<(l.length:Int))=true:=by simp;omega
  clear hR
  go_enter Tryz.func54,Tryz.ntmps54
  go_wp2_with fail
  go_ret
  exact⟨rfl,by go_grown⟩
 have hR2:rowG (-1) l=R:=by rw[← hR,rowN,if_neg h4]
 have HR:=Lib.hid hR2
 have hd:decide (4096<(l.length:Int))=false:=by simp;omega
 clear hR hR2
 go_enter Tryz.func54,Tryz.ntmps54
 go_wp2_with fail
 go_loopw [11] (fun s wr=>∃ i:Nat,i≤l.length∧s=.int .i64 i∧Hid (rowG (-1) (l.take i)=0)∧Below w.heap.size w wr) (fun s _=>l.length - (intOf s).toNat)
 case atStart=>exact⟨0,Nat.zero_le _,rfl,Lib.hid rfl,Below.refl _ _⟩
 case round =>
  obtain⟨i,hi,rfl,HG,hbw⟩:=hrel
  by_cases hlt:i<l.length
  ·obtain⟨e,he⟩:∃ t,l[i]?=some t:=⟨_,List.getElem?_eq_getElem hlt⟩
   obtain⟨g,off,rfl,hg,l0,l1,l2,l3⟩:=HC.out i e he
   have hme:=HM.out e (List.mem_of_getElem? he)
   have HK:=Lib.hid (fun W=>pcheck_any e W hme)
   have HAt:=Lib.hid (rowG_at l i e he HG.out)
   have hi2:(i:Int)<(l.length:Int):=by omega
   have hcl:=keep1E (Below.refl _ _) ⟨cells4 hbw ⟨l0,l1,l2,l3⟩,hbw⟩
   have HE:Hid (¬ e.id≤-1):=Lib.hid (by have:=hme.1;omega)
   clear he hme l0 l1 l2 l3 hbw HG
   unfold eC at HK
   have HX:=Lib.hid (EAt.made wr e 124)
   have HBX:=Lib.hid (hcl.2.trans (((Below.refl wr.heap.size wr).alloc (Nat.le_refl _) (.cells (eC e) 124)).mono hcl.2.size))
   unfold eC at HX HBX
   by_cases h0:ckN e=0
   ·rw[h0] at HK
    have HCL:=Lib.hid hcl
    obtain⟨⟨k0,k1,k2,k3⟩,hbw⟩:=hcl
    clear hbw
    by_cases hz:i=0
    ·have hdz:decide (0<(i:Int))=false:=by simp;omega
     have hdn:decide (0<i)=false:=by simp;omega
     have HZ:=Lib.hid hz
     clear hz
     go_wp2_with fail
     refine(HK.out _).mono ?_
     rintro x w1 ⟨rfl,hb⟩
     have HS0:=keepE (Below.drew (Below.refl _ _)) (keepE hb ⟨HX.out,HBX.out⟩)
     clear hb k0 k1 k2 k3 HCL HX HBX
     go_upto_region 9 with fail
     refine wp_region_held_drew (S:=fun w'=>(w'.cell? ⟨wr.heap.size,0,none⟩=some (.int .u64 e.id)∧w'.cell? ⟨wr.heap.size,1,none⟩=some (.int .u64 e.off)∧w'.cell? ⟨wr.heap.size,2,none⟩=some (.int .u32 e.ln)∧w'.cell? ⟨wr.heap.size,3,none⟩=some (.int .u32 e.rn))∧Below w.heap.size w w') (by kernel_rfl) HS0 (fun hH0=>?_)
     refine tK 0 21 hH0 ?_
     try simp only[Act.put,zsA,zsB,zsC]
     refine tK 1 22 hH0 ?_
     try simp only[Act.put,zsA,zsB,zsC]
     refine tK 2 23 hH0 ?_
     try simp only[Act.put,zsA,zsB,zsC]
     refine tU 3 24 hH0 ?_
     try simp only[Act.put,zsA,zsB,zsC]
     refine tU 4 25 hH0 ?_
     try simp only[Act.put,zsA,zsB,zsC]
     refine tU 5 26 hH0 ?_
     try simp only[Act.put,zsA,zsB,zsC]
     refine tU 6 27 hH0 ?_
     try simp only[Act.put,zsA,zsB,zsC]
     refine tU 7 28 hH0 ?_
     try simp only[Act.put,zsA,zsB,zsC]
     refine tU 8 29 hH0 ?_
     try simp only[Act.put,zsA,zsB,zsC]
     refine tU 9 30 hH0 ?_
     try simp only[Act.put,zsA,zsB,zsC]
     refine tU 10 31 hH0 ?_
     try simp only[Act.put,zsA,zsB,zsC]
     refine tU 11 32 hH0 ?_
     try simp only[Act.put,zsA,zsB,zsC]
     refine tK 12 33 hH0 ?_
     try simp only[Act.put,zsA,zsB,zsC]
     refine wpAnyH_done (by kernel_rfl) ?_ _
     go_wp2_with fail
     go_roundw
     case rel =>
      refine⟨i+1,by omega,by go_num,Lib.hid (HAt.out.2 h0 ?_),hH0.2⟩
      unfold prvN
      rw[if_pos HZ.out]
      exact HE.out
     case measure=>simp[intOf];omega
    ·obtain⟨j,rfl⟩:∃ j,i=j+1:=⟨i - 1,by omega⟩
     obtain⟨f,hf⟩:∃ t,l[j]?=some t:=⟨_,List.getElem?_eq_getElem (by omega)⟩
     have hpv:prvN l (j+1)=laN f:=by
      unfold prvN
      rw[if_neg (by omega),Nat.add_sub_cancel,List.getD_eq_getElem?_getD,hf]
      rfl
     rw[hpv] at HAt
     obtain⟨g',off',ha,hg',f0,f1,f2,f3⟩:=HC.out j f hf
     obtain⟨rfl,rfl⟩:g=g'∧off=off':=by simpa using ha
     have hmf:=HM.out f (List.mem_of_getElem? hf)
     have HLF:=Lib.hid (fun W=>plast_any f W hmf)
     unfold eC at HLF
     have HF:=Lib.hid (cells4 HBX.out ⟨f0,f1,f2,f3⟩)
     have hij:((j+1:Nat):Int) - 1=(j:Int):=by omega
     have hwj:IntKind.i64.wrap (j:Int)=(j:Int):=by rw[IntKind.wrap_i64] <;> omega
     have hj2:(j:Int)<(l.length:Int):=by omega
     have hj0:(0:Int)≤(j:Int):=by omega
     generalize hgi:j+1=i at *
     have hdz:decide (0<(i:Int))=true:=by simp;omega
     have hdn:decide (0<i)=true:=by simp;omega
     obtain⟨q,hq⟩:∃ q,laN f=q:=⟨_,rfl⟩
     rw[hq] at HAt HLF
     clear hq hf f0 f1 f2 f3 hpv hz hmf
     by_cases hle:e.id≤q
     ·have hR:R=10:=by rw[← HR.out,HAt.out.1,if_neg (fun h=>h h0),if_pos hle]
      subst hR
      have hdl:decide (e.id≤q)=true:=by simpa using hle
      clear hle HAt
      go_wp2_with fail
      refine(HK.out _).mono ?_
      rintro x w1 ⟨rfl,hb⟩
      have HS0:=keep2E (Below.drew (Below.refl _ _)) (keep2E hb ⟨HX.out,HF.out,HBX.out⟩)
      clear hb k0 k1 k2 k3 HCL HX HBX HF
      go_upto_region 9 with fail
      refine wp_region_held_drew (S:=fun w'=>(w'.cell? ⟨wr.heap.size,0,none⟩=some (.int .u64 e.id)∧w'.cell? ⟨wr.heap.size,1,none⟩=some (.int .u64 e.off)∧w'.cell? ⟨wr.heap.size,2,none⟩=some (.int .u32 e.ln)∧w'.cell? ⟨wr.heap.size,3,none⟩=some (.int .u32 e.rn))∧(w'.cell? ⟨g,off+j*4,none⟩=some (.int .u64 f.id)∧w'.cell? ⟨g,off+j*4+1,none⟩=some (.int .u64 f.off)∧w'.cell? ⟨g,off+j*4+2,none⟩=some (.int .u32 f.ln)∧w'.cell? ⟨g,off+j*4+3,none⟩=some (.int .u32 f.rn))∧Below w.heap.size w w') (by kernel_rfl) HS0 (fun hH0=>?_)
      refine tK 0 21 hH0 ?_
      try simp only[Act.put,zsA,zsB,zsC]
      refine tK 1 22 hH0 ?_
      try simp only[Act.put,zsA,zsB,zsC]
      refine tK 2 23 hH0 ?_
      try simp only[Act.put,zsA,zsB,zsC]
      refine tK 3 24 hH0 ?_
      try simp only[Act.put,zsA,zsB,zsC]
      refine tK 4 25 hH0 ?_
      try simp only[Act.put,zsA,zsB,zsC]
      refine tK 5 26 hH0 ?_
      try simp only[Act.put,zsA,zsB,zsC]
      refine tK 6 27 hH0 ?_
      try simp only[Act.put,zsA,zsB,zsC]
      refine tK 7 28 hH0 ?_
      try simp only[Act.put,zsA,zsB,zsC]
      refine tK 8 29 hH0 ?_
      try simp only[Act.put,zsA,zsB,zsC]
      refine tK 9 30 hH0 ?_
      try simp only[Act.put,zsA,zsB,zsC]
      refine wpAnyH_ready (rs:=[10]) (by kernel_rfl) (by simp) ?_
      refine AllReadyH.cons rfl (fun K hK=>?_) AllReadyH.nil
      go_simp
      refine(HLF.out _).mono ?_
      rintro e w' ⟨rfl,hb⟩
      go_wp2_with fail
      refine hK.out _ _ (keep2E hb hH0) (fun hH1=>?_)
      clear hK K hb hH0
      try simp only[Act.put,zsA,zsB,zsC]
      refine tK 11 32 hH1 ?_
      try simp only[Act.put,zsA,zsB,zsC]
      refine tK 12 33 hH1 ?_
      try simp only[Act.put,zsA,zsB,zsC]
      refine wpAnyH_done (by kernel_rfl) ?_ _
      go_wp2_with fail
      go_ret
      exact⟨rfl,hH1.2.2⟩
     ·have hdl:decide (e.id≤q)=false:=by simpa using hle
      have HG2:=Lib.hid (HAt.out.2 h0 hle)
      clear hle HAt
      go_wp2_with fail
      refine(HK.out _).mono ?_
      rintro x w1 ⟨rfl,hb⟩
      have HS0:=keep2E (Below.drew (Below.refl _ _)) (keep2E hb ⟨HX.out,HF.out,HBX.out⟩)
      clear hb k0 k1 k2 k3 HCL HX HBX HF
      go_upto_region 9 with fail
      refine wp_region_held_drew (S:=fun w'=>(w'.cell? ⟨wr.heap.size,0,none⟩=some (.int .u64 e.id)∧w'.cell? ⟨wr.heap.size,1,none⟩=some (.int .u64 e.off)∧w'.cell? ⟨wr.heap.size,2,none⟩=some (.int .u32 e.ln)∧w'.cell? ⟨wr.heap.size,3,none⟩=some (.int .u32 e.rn))∧(w'.cell? ⟨g,off+j*4,none⟩=some (.int .u64 f.id)∧w'.cell? ⟨g,off+j*4+1,none⟩=some (.int .u64 f.off)∧w'.cell? ⟨g,off+j*4+2,none⟩=some (.int .u32 f.ln)∧w'.cell? ⟨g,off+j*4+3,none⟩=some (.int .u32 f.rn))∧Below w.heap.size w w') (by kernel_rfl) HS0 (fun hH0=>?_)
      refine tK 0 21 hH0 ?_
      try simp only[Act.put,zsA,zsB,zsC]
      refine tK 1 22 hH0 ?_
      try simp only[Act.put,zsA,zsB,zsC]
      refine tK 2 23 hH0 ?_
      try simp only[Act.put,zsA,zsB,zsC]
      refine tK 3 24 hH0 ?_
      try simp only[Act.put,zsA,zsB,zsC]
      refine tK 4 25 hH0 ?_
      try simp only[Act.put,zsA,zsB,zsC]
      refine tK 5 26 hH0 ?_
      try simp only[Act.put,zsA,zsB,zsC]
      refine tK 6 27 hH0 ?_
      try simp only[Act.put,zsA,zsB,zsC]
      refine tK 7 28 hH0 ?_
      try simp only[Act.put,zsA,zsB,zsC]
      refine tK 8 29 hH0 ?_
      try simp only[Act.put,zsA,zsB,zsC]
      refine tK 9 30 hH0 ?_
      try simp only[Act.put,zsA,zsB,zsC]
      refine wpAnyH_ready (rs:=[10]) (by kernel_rfl) (by simp) ?_
      refine AllReadyH.cons rfl (fun K hK=>?_) AllReadyH.nil
      go_simp
      refine(HLF.out _).mono ?_
      rintro e w' ⟨rfl,hb⟩
      go_wp2_with fail
      refine hK.out _ _ (keep2E hb hH0) (fun hH1=>?_)
      clear hK K hb hH0
      try simp only[Act.put,zsA,zsB,zsC]
      refine tK 11 32 hH1 ?_
      try simp only[Act.put,zsA,zsB,zsC]
      refine tK 12 33 hH1 ?_
      try simp only[Act.put,zsA,zsB,zsC]
      refine wpAnyH_done (by kernel_rfl) ?_ _
      go_wp2_with fail
      go_roundw
      case rel=>exact⟨i+1,by omega,by go_num,HG2,hH1.2.2⟩
      case measure=>simp[intOf];omega
   ·have hR:R=ckN e:=by rw[← HR.out,HAt.out.1,if_pos h0]
    obtain⟨r,hr⟩:∃ r,ckN e=r:=⟨_,rfl⟩
    rw[hr] at HK h0 hR
    subst hR
    have hne:(R != 0)=true:=by simp only[bne_iff_ne,ne_eq];exact h0
    clear h0 hr HAt HR
    have HCL:=Lib.hid hcl.2
    obtain⟨⟨k0,k1,k2,k3⟩,hbw⟩:=hcl
    clear hbw
    go_wp2_with fail
    refine(HK.out _).mono ?_
    rintro x w1 ⟨rfl,hb⟩
    have hb1:=Lib.hid (HBX.out.trans (hb.mono HBX.out.size))
    clear hb k0 k1 k2 k3 HCL
    go_wp2_with fail
    go_ret
    exact⟨rfl,hb1.out⟩
  ·obtain rfl:i=l.length:=by omega
   have hG:=HG.out
   rw[List.take_length] at hG
   have hR:R=0:=HR.out.symm.trans hG
   subst hR
   clear hG HG HR
   go_wp2_with fail
   go_ret
   exact⟨rfl,hbw⟩
theorem ret2 {k l:IntKind} {a b c d:Int} (h:a=b) (g:c=d):Ending.returned (.tuple #[.int k a,.int l c])=.returned (.tuple #[.int k b,.int l d]):=by rw[h,g]
theorem fadd_any (s b:Nat) (hs:s<18446744073709551616) (hb:b<256) (w:World) :
  Calls Tryz.prog 249 #[.int .u64 s,.int .u8 b] w fun e w'=>e=.returned (.int .u64 (addF s b))∧w'=w:=by
 have h1:=bits_xor_u64_nat s b hs (by omega)
 have h2:=xor_lt s b hs (by omega)
 have hw:IntKind.u64.wrap (b:Int)=(b:Int):=by rw[IntKind.wrap_u64];omega
 go_enter Tryz.func249,Tryz.ntmps249
 go_wp2
 go_ret
 refine⟨ret_int ?_,rfl⟩
 rw[IntKind.wrap_u64]
 unfold addF
 generalize (s ^^^ b)=y
 omega
theorem take_snoc (s:ByteArray) (k:Nat) (h:k<s.size):s.data.toList.take (k+1)=s.data.toList.take k++[s[k]]:=by
 rw[List.take_succ_eq_append_getElem (by simpa using h)];rfl
theorem sum_step (x:Nat) (s:ByteArray) (k:Nat) (h:k<s.size):sumF x (s.data.toList.take (k+1))=addF (sumF x (s.data.toList.take k)) s[k].toNat:=by
 rw[take_snoc s k h,sumF_snoc]
theorem sum_whole (x:Nat) (s:ByteArray):sumF x (s.data.toList.take s.size)=sumF x s.data.toList:=by
 rw[List.take_of_length_le (by simp)]
set_option maxHeartbeats 1000000 in
theorem of_any (x0:Nat) (hx0:x0<18446744073709551616) (s:ByteArray) (hs:s.size≤maxLen) (w:World) :
  Calls Tryz.prog 250 #[.agg #[.int .u64 x0,.func (.func 249) #[] #[]],.string s] w fun e w'=>e=.returned (.int .u64 (sumF x0 s.data.toList))∧Below w.heap.size w w':=by
 have hs':=hs
 unfold maxLen at hs
 go_enter Tryz.func250,Tryz.ntmps250
 go_wp2
 go_loopw [5,11] (fun x i wr=>∃ k:Nat,k≤s.size∧i=.int .i64 k∧x=.int .u64 (sumF x0 (s.data.toList.take k):Nat)∧wr.cell? ⟨w.heap.size,1,none⟩=some (.func (.func 249) #[] #[])∧w.heap.size<wr.heap.size∧Below w.heap.size w wr) (fun _ i _=>s.size - (intOf i).toNat)
 case atStart=>exact⟨0,Nat.zero_le _,rfl,by rw[List.take_zero,sumF_nil],by simp[go_sem],by simp,Below.alloc (Below.refl _ _) (Nat.le_refl _) _⟩
 case round =>
  obtain⟨k,hk,rfl,rfl,hc,hz,hbw⟩:=hrel
  by_cases hlt:k<s.size
  ·have HS:=Lib.hid (sum_step x0 s k hlt)
   have hx:=sumF_lt (s.data.toList.take k) x0 hx0
   have hb:s[k].toNat<256:=s[k].toNat_lt
   generalize sumF x0 (s.data.toList.take k)=x at *
   have HA:=Lib.hid (fadd_any x s[k].toNat hx hb)
   go_wp2_with fail
   go_quiet ((go_at_call 249;(with_reducible refine Calls.quiet_of_same (HA.out _))))
   have hd:Below w.heap.size w (wr.drewN nq):=hbw.trans ⟨rfl,rfl,rfl,Nat.le_refl _,fun _ _=>rfl⟩
   have hc':(wr.drewN nq).cell? ⟨w.heap.size,1,none⟩=some (.func (.func 249) #[] #[]):=hc
   have hz':w.heap.size<(wr.drewN nq).heap.size:=hz
   clear hc hz hbw HA
   generalize wr.drewN nq=wn at *
   go_wp2_with fail
   go_roundw
   case rel=>exact⟨k+1,by omega,by go_num,by rw[HS.out],hc',hz',hd⟩
   case measure=>simp[intOf];omega
  ·obtain rfl:k=s.size:=by omega
   have HW:=Lib.hid (sum_whole x0 s)
   generalize sumF x0 (s.data.toList.take s.size)=x at *
   go_wp2
   go_ret
   exact⟨ret_int (by rw[HW.out]),hbw⟩
theorem sum_any (s:ByteArray) (hs:s.size≤maxLen) (w:World) :
  Calls Tryz.prog 230 #[.string s] w fun e w'=>e=.returned (.int .u64 (sumF fSt s.data.toList))∧Below w.heap.size w w':=by
 have HO:=Lib.hid (fun W=>of_any fSt (by decide) s hs W)
 have he:((fSt:Nat):Int)=14695981039346656037:=rfl
 rw[he] at HO
 clear he
 go_enter Tryz.func230,Tryz.ntmps230
 go_wp2_with fail
 refine(HO.out _).mono ?_
 rintro y w1 ⟨rfl,hb⟩
 have HB:=Lib.hid hb
 clear hb
 go_wp2_with fail
 go_ret
 exact⟨rfl,HB.out⟩
theorem bkt_bound (x:Nat) (n:Int) (h1:1≤n):0≤(x:Int) % n∧(x:Int) % n<n:=⟨Int.emod_nonneg _ (by omega),Int.emod_lt_of_pos _ (by omega)⟩
theorem bucket_any (s:ByteArray) (hs:s.size≤maxLen) (n:Int) (n0:-9223372036854775808≤n) (n1:n≤9223372036854775807) (w:World) :
  Calls Tryz.prog 194 #[.string s,.int .i64 n] w fun e w'=>e=.returned (.int .i64 (bktF (sumF fSt s.data.toList) n))∧Below w.heap.size w w':=by
 have HS:=Lib.hid (fun W=>sum_any s hs W)
 have hx:=sumF_lt s.data.toList fSt (by decide)
 generalize sumF fSt s.data.toList=x at *
 by_cases h1:n<1
 ·have HB:=Lib.hid (show bktF x n=0 by unfold bktF;rw[if_pos h1])
  go_enter Tryz.func194,Tryz.ntmps194
  go_wp2_with fail
  go_ret
  exact⟨ret_int HB.out.symm,Below.refl _ _⟩
 ·have HB:=Lib.hid (show bktF x n=(x:Int) % n by unfold bktF;rw[if_neg h1])
  have HQ:=Lib.hid (bkt_bound x n (by omega))
  have hw:IntKind.u64.wrap n=n:=by rw[IntKind.wrap_u64];omega
  have hn:¬ n=0:=by omega
  go_enter Tryz.func194,Tryz.ntmps194
  go_wp2_with fail
  refine(HS.out _).mono ?_
  rintro y w1 ⟨rfl,hb⟩
  have HBl:=Lib.hid hb
  clear hb HS
  go_wp2_with fail
  go_ret
  exact⟨ret_int (by rw[HB.out];have:=HQ.out;unfold wrap64;omega),HBl.out⟩
theorem is_any (s:ByteArray) (t:Kt) (w:World):Calls Tryz.prog 195 #[.string s,.agg #[.int .u64 t.1,.int .u32 t.2.size,.string t.2]] w fun e w'=>e=.returned (.bool (decide (t.2=s)))∧Below w.heap.size w w':=by
 by_cases h:t.2=s
 ·have hd:=str_yes h
  rw[decide_eq_true h]
  go_enter Tryz.func195,Tryz.ntmps195
  go_wp2_with fail
  go_ret
  exact⟨rfl,by go_grown⟩
 ·have hd:=str_no h
  rw[decide_eq_false h]
  go_enter Tryz.func195,Tryz.ntmps195
  go_wp2_with fail
  go_ret
  exact⟨rfl,by go_grown⟩
theorem bucketOf_any (s:ByteArray) (hs:s.size≤maxLen) (w:World):Calls Tryz.prog 133 #[.string s] w fun e w'=>e=.returned (.int .i64 (bkt s))∧Below w.heap.size w w':=by
 have HB:=Lib.hid (fun W=>bucket_any s hs 2048 (by omega) (by omega) W)
 go_enter Tryz.func133,Tryz.ntmps133
 go_wp2_with fail
 refine(HB.out _).mono ?_
 rintro e w1 ⟨rfl,hb⟩
 have HBl:=Lib.hid hb
 clear hb
 go_wp2_with fail
 go_ret
 exact⟨rfl,HBl.out⟩
set_option maxHeartbeats 1000000 in
theorem end_any (w:World) (pb:Nat) (va vm:Value) (G:Int→Value) (l:List ByteArray) (h:PoolAt w pb va vm G l):Calls Tryz.prog 136 #[.pointer (some ⟨pb,0,none⟩)] w fun e w'=>e=.returned (.int .u64 (totF l))∧Below w.heap.size w w':=by
 obtain⟨c0,c1,_,_⟩:=h.two
 obtain⟨al,cap,rfl,hcap,hmx,hc⟩:=h.all.ktsAt
 rw[plc_len] at *
 rcases List.eq_nil_or_concat l with rfl|⟨l',s,rfl⟩
 ·clear hc
  go_enter Tryz.func136,Tryz.ntmps136
  go_wp2_with fail
  go_ret
  exact⟨rfl,Below.refl _ _⟩
 ·rw[List.concat_eq_append] at *
  have hk:(plc (l'++[s]) 0)[l'.length]?=some (totF l',s):=by
   rw[plc_snoc,List.getElem?_append_right (by rw[plc_len];exact Nat.le_refl _),plc_len];simp
  obtain⟨g,off,rfl,hg,d0,d1,d2⟩:=hc _ _ hk
  have HT:=Lib.hid h.good.tot
  have hlen:(l'++[s]).length=l'.length+1:=by simp
  have ht:totF (l'++[s])=totF l'+s.size:=by rw[totF_append,totF_one]
  have hlb:=h.good.few
  rw[hlen] at *
  have hw1:IntKind.i64.wrap (l'.length:Int)=(l'.length:Int):=by rw[IntKind.wrap_i64] <;> omega
  have hi:((l'.length:Nat):Int)<((l'.length:Nat):Int)+1:=by omega
  have hi2:(0:Int)≤((l'.length:Nat):Int):=by omega
  dsimp only at d0 d1 d2
  have k0:∀ O,(w.alloc O).cell? ⟨pb,0,none⟩=_:=fun O=>vcell_later ((Below.refl _ _).alloc (Nat.le_refl _) O) c0
  have k1:∀ O,(w.alloc O).cell? ⟨g,off+l'.length*3,none⟩=_:=fun O=>vcell_later ((Below.refl _ _).alloc (Nat.le_refl _) O) d0
  have k2:∀ O,(w.alloc O).cell? ⟨g,off+l'.length*3+1,none⟩=_:=fun O=>vcell_later ((Below.refl _ _).alloc (Nat.le_refl _) O) d1
  clear hc hk h
  go_enter Tryz.func136,Tryz.ntmps136
  go_wp2_with fail
  go_region
  all_goals
   go_wp2_with fail
   go_ret
   refine⟨ret_int ?_,by go_grown⟩
   rw[ht]
   have:=HT.out
   rw[ht] at this
   simp only[IntKind.wrap_u64]
   omega
theorem map_none_eq (w:World):(Op.equal 225 (.map none) (.map none)).run Tryz.prog w=.ok true w:=by
 rw[Op.equal,show Op.maxDepth=9999+1 from rfl]
 unfold Op.equalIn
 simp[go_sem]
theorem map_none_eql (w:World):(binOp BinOp.eql 225 (.map none) (.map none)).run Tryz.prog w=.ok (.bool true) w:=by
 simp[binOp,go_sem,map_none_eq]
theorem map_some_eq (mb:Nat) (w:World):(Op.equal 225 (.map (some mb)) (.map none)).run Tryz.prog w=.ok false w:=by
 rw[Op.equal,show Op.maxDepth=9999+1 from rfl]
 unfold Op.equalIn
 simp[go_sem]
theorem map_some_eql (mb:Nat) (w:World):(binOp BinOp.eql 225 (.map (some mb)) (.map none)).run Tryz.prog w=.ok (.bool false) w:=by
 simp[binOp,go_sem,map_some_eq]
theorem below_one (w:World) (o:Obj):Below w.heap.size w (w.alloc o):=(Below.refl _ _).alloc (Nat.le_refl _) o
theorem mid_old {w w3:World} {pb mb:Nat} {va:Value} {G:Int→Value} {l:List ByteArray} {s:ByteArray} (hP:PoolAt w pb va (.map (some mb)) G l) (h3:PoolAt w3 pb va (.map (some mb)) G l) (ht:Two w3 w.heap.size (.int .u64 0) (.int .u32 0)) (hb:Below w.heap.size w w3) (T:TypeId) :
  MidL w (w3.alloc (.cells #[.int .u64 (totF l:Nat),.int .u32 s.size,.string s] T)) pb w.heap.size w3.heap.size mb va (.map (some mb)) G l s:=by
 have h4:=h3.below (below_one w3 (.cells #[.int .u64 (totF l:Nat),.int .u32 s.size,.string s] T))
 have hr:=ht.lt
 refine⟨h4.two,h4.all,?_,h4.grps,three_new w3 (totF l,s) T,ht.alloc _,Nat.le_refl _,by omega,by omega,h4.n5 mb rfl,.inl rfl,fun g hg=>(hP.all.lt g hg).2,fun k g hg=>((hP.grps k).lt g hg).2,Kept.below _ (hb.alloc hb.size _)⟩
 rcases h4.map with ⟨e,_⟩|⟨m,e,hm⟩
 ·cases e
 ·cases e;exact hm
theorem mid_new {w w3:World} {pb:Nat} {va:Value} {G:Int→Value} {s:ByteArray} (hP:PoolAt w pb va (.map none) G []) (hG:∀ k,G k=nilS) (h3:PoolAt w3 pb va (.map none) G []) (ht:Two w3 w.heap.size (.int .u64 0) (.int .u32 0)) (hb:Below w.heap.size w w3) (T:TypeId) :
  MidL w (((w3.setCell ⟨pb,1,none⟩ (.map (some (w3.heap.size+1)))).alloc (.cells #[.int .u64 (totF []:Nat),.int .u32 s.size,.string s] T)).alloc (.map #[] 0)) pb w.heap.size w3.heap.size (w3.heap.size+1) va (.map none) G [] s:=by
 have hr:=ht.lt
 have hpw:=hP.two.lt
 have hp3:=h3.two.lt
 have hsz:(w3.setCell ⟨pb,1,none⟩ (.map (some (w3.heap.size+1)))).heap.size=w3.heap.size:=by simp
 have h2:Two (w3.setCell ⟨pb,1,none⟩ (.map (some (w3.heap.size+1)))) pb va (.map (some (w3.heap.size+1))):=by
  refine⟨?_,World.cell?_setCell_same _ _ _ h3.two.2.1,by simpa using h3.two.2.2.1,by simpa using h3.two.2.2.2⟩
  rw[World.cell?_setCell_other (h:=by simp)];exact h3.two.1
 have es:∀ b,b≠pb→(w3.setCell ⟨pb,1,none⟩ (.map (some (w3.heap.size+1)))).heap[b]?=w3.heap[b]?:=fun b hn=>Below.heap_setCell _ _ _ _ (by simpa using hn)
 have ha:OwnK (w3.setCell ⟨pb,1,none⟩ (.map (some (w3.heap.size+1)))) 0 va (plc [] 0):=h3.all.keep (fun k hk=>es k (fun e=>h3.n1 (by rw[hk,e])))
 have hg:∀ k,OwnK (w3.setCell ⟨pb,1,none⟩ (.map (some (w3.heap.size+1)))) 0 (G k) (grp k (plc [] 0)):=fun k=>(h3.grps k).keep (fun j hj=>es j (fun e=>h3.n2 k (by rw[hj,e])))
 have hrs:Two (w3.setCell ⟨pb,1,none⟩ (.map (some (w3.heap.size+1)))) w.heap.size (.int .u64 0) (.int .u32 0):=ht.keep (es _ (by omega))
 have hkp:Kept (blkS pb va (.map none) G) (blkS pb va (.map none) G) w (w3.setCell ⟨pb,1,none⟩ (.map (some (w3.heap.size+1)))):=(Kept.below _ hb).trans (kept_set _ _ _ _ (.inl rfl))
 generalize hv:Value.map (some (w3.heap.size+1))=mv at *
 generalize hw:w3.setCell ⟨pb,1,none⟩ mv=W3 at *
 have b1:=below_one W3 (.cells #[.int .u64 (totF []:Nat),.int .u32 s.size,.string s] T)
 have b2:=below_one (W3.alloc (.cells #[.int .u64 (totF []:Nat),.int .u32 s.size,.string s] T)) (.map #[] 0)
 have hm:=MapG.made (W3.alloc (.cells #[.int .u64 (totF []:Nat),.int .u32 s.size,.string s] T))
 have hk:=(three_new W3 (totF [],s) T).below b2
 have hG':G=fun _=>nilS:=funext hG
 rw[hsz] at hk
 refine⟨?_,(ha.below b1).below b2,?_,fun k=>((hg k).below b1).below b2,hk,(hrs.alloc _).alloc _,Nat.le_refl _,by omega,by omega,by omega,.inr (by omega),fun g hg=>(hP.all.lt g hg).2,fun k g hg=>((hP.grps k).lt g hg).2,?_⟩
 ·rw[hv];exact(h2.alloc _).alloc _
 ·rw[hG']
  have e:(W3.alloc (.cells #[.int .u64 (totF []:Nat),.int .u32 s.size,.string s] T)).heap.size=w3.heap.size+1:=by simp[hsz]
  rw[e] at hm
  exact hm
 ·exact(hkp.trans (Kept.below _ b1)).trans (Kept.below _ b2)
set_option maxRecDepth 20000 in
set_option maxHeartbeats 2000000 in
theorem lay_any (w:World) (pb:Nat) (va vm:Value) (G:Int→Value) (l:List ByteArray) (h:PoolAt w pb va vm G l) (s:ByteArray) (hg:GoodP (l++[s])) :
  Calls Tryz.prog 135 #[.pointer (some ⟨pb,0,none⟩),.int .i64 (bkt s),.string s] w fun e w'=>e=.returned (.agg #[.int .u64 (totF l:Nat),.int .u32 s.size])∧∃ va' vm' G',PoolAt w' pb va' vm' G' (l++[s])∧Kept (blkS pb va vm G) (blkS pb va' vm' G') w w':=by
 have hss:s.size≤65536:=hg.short s (by simp)
 have hwf:(Lit.int .i64 (bkt s)).wf=true:=by have:=bkt_range s;exact wf_i64 (by omega) (by omega)
 have hll:l.length≤2047:=by have:=hg.few;simp at this;omega
 have hB0:Below w.heap.size w (w.alloc (.cells #[.int .u64 0,.int .u32 0] 147)):=(Below.refl _ _).alloc (Nat.le_refl _) _
 have hP1:=h.below hB0
 have ht2:=two_new w (.int .u64 0) (.int .u32 0) 147
 have HE:=Lib.hid (end_any _ pb va vm G l hP1)
 have HC:=Lib.hid (fun W=>sclone_any s W (by omega))
 have hw1:IntKind.u32.wrap (s.size:Int)=(s.size:Int):=by rw[IntKind.wrap_u32];omega
 have HP:=Lib.hid h
 have HP1:=Lib.hid (And.intro hP1 (And.intro ht2 hB0))
 have hpm:=h.map
 have hpl:=h.two.lt
 clear h hP1 ht2 hB0
 go_enter Tryz.func135,Tryz.ntmps135
 go_wp2_with fail
 generalize hW1:w.alloc (.cells #[.int .u64 0,.int .u32 0] 147)=W1 at *
 have hWs:W1.heap.size=w.heap.size+1:=by rw[← hW1];simp
 refine HE.out.mono ?_
 rintro e w2 ⟨rfl,hb2⟩
 have HB2:=Lib.hid hb2
 clear hb2 HE
 go_wp2_with fail
 refine(HC.out _).mono ?_
 rintro e w3 ⟨rfl,hb3⟩
 have hb13:=HB2.out.trans (hb3.mono HB2.out.size)
 have hp3:=HP1.out.1.below hb13
 have HR3:=Lib.hid (And.intro hp3 (And.intro (HP1.out.2.1.below hb13) (HP1.out.2.2.trans (hb13.mono HP1.out.2.2.size))))
 obtain⟨c0,c1,c2,c3⟩:=hp3.two
 have hpl3:=hp3.two.lt
 have hne3:pb≠w3.heap.size:=by omega
 clear hb3 HB2 HC hp3 hb13
 obtain⟨om,rfl⟩:∃ om,vm=.map om:=by
  rcases hpm with ⟨e,_⟩|⟨mb,e,_⟩
  ·exact⟨_,e⟩
  ·exact⟨_,e⟩
 obtain⟨nb,q1,hy,hn⟩:∃ nb:Bool,(∀ W,(binOp BinOp.eql 225 (.map om) (.map none)).run Tryz.prog W=.ok (.bool nb) W)∧(nb=true→om=none∧l=[]∧∀ k,G k=nilS)∧(nb=false→∃ mb,om=some mb):=by
  rcases hpm with ⟨e,e2,hG⟩|⟨mb,e,hm⟩
  ·cases e
   exact⟨true,fun W=>map_none_eql W,fun _=>⟨rfl,e2,hG⟩,fun h=>(by cases h)⟩
  ·cases e
   exact⟨false,fun W=>map_some_eql mb W,fun h=>(by cases h),fun _=>⟨mb,rfl⟩⟩
 clear hpm
 go_upto_if 21 with fail
 generalize hkb:w3.heap.size=kb at *
 go_cut [] (fun wx=>∃ mb,MidL w wx pb w.heap.size kb mb va (.map om) G l s)
 case first =>
  cases nb with
  | true =>
   obtain⟨rfl,rfl,hG⟩:=hy rfl
   have q2:=fun t W=>run_makeMap (P:=Tryz.prog) t W
   have hne4:pb≠kb+1:=by omega
   have hM:=mid_new (s:=s) HP.out hG HR3.out.1 HR3.out.2.1 HR3.out.2.2 234
   rw[hkb] at hM
   clear hG hy hn
   go_wp2_with fail
   go_meet
   case rel=>exact⟨_,hM⟩
  | false =>
   obtain⟨mb,rfl⟩:=hn rfl
   have hM:=mid_old (s:=s) HP.out HR3.out.1 HR3.out.2.1 HR3.out.2.2 234
   rw[hkb] at hM
   go_wp2_with fail
   go_meet
   case rel=>exact⟨_,hM⟩
 case rest =>
  obtain⟨mb,hM⟩:=hcut
  generalize wc=W at *
  go_upto_region 4 with fail
  have HM:=Lib.hid hM
  have HX:=Lib.hid (fun X (hX:Below W.heap.size W X)=>hM.all.below hX)
  obtain⟨d0,d1,d2,d3⟩:=hM.two
  obtain⟨k0,k1,k2⟩:=hM.kt
  have dA:∀ O,(W.alloc O).cell? ⟨pb,0,none⟩=some va:=fun O=>(hM.two.alloc O).1
  have hlp:(plc l 0).length≤1000000:=by rw[plc_len];omega
  clear hM HR3 HP1 c0 c1 c2 c3 hpl3 hne3 hW1 hWs hkb q1 hy hn
  go_cut [] (fun wx=>∃ v',Mid2 w wx pb w.heap.size kb mb va (.map om) v' G l s)
  case first =>
   go_region_law (refine step_kappend rfl (.tmp 30) (.tmp 32) rfl va (plc l 0) (totF l,s) _ 1 (HX.out _ (by go_grown)) (three_new _ (totF l,s) _) hlp (by simp[Act.eval,Act.put]) (by simp[Act.eval,Act.put]) ?_;intro v' w6 hown6 hgr6 hloc6;obtain⟨a6,n6,p6,rfl⟩:=hown6.form3;obtain⟨f2,hm2⟩:=mid2_of HP.out HM.out (by go_grown) hown6 hgr6 hloc6;obtain⟨f0,f1,f3,f4⟩:=f2)
   all_goals
    go_wp2_with fail
    go_meet
    case rel=>exact⟨_,hm2⟩
  case rest =>
   obtain⟨va',hm2⟩:=hcut
   generalize wc=W2 at *
   clear d0 d1 d2 d3 k0 k1 k2 dA HX hlp
   have HM2:=Lib.hid hm2
   have HX:=Lib.hid (fun X (hX:Below W2.heap.size W2 X)=>(hm2.grps (bkt s)).below hX)
   have HLK:=Lib.hid (fun X (hX:Below W2.heap.size W2 X)=>(hm2.map.below hX).look (bkt s) hwf)
   have hl0:=HLK.out W2.drew (by go_grown)
   have hl1:=fun O=>HLK.out (W2.alloc O).drew (by go_grown)
   have hl2:=fun O=>HLK.out (W2.drew.alloc O) (by go_grown)
   obtain⟨d0,d1,d2,d3⟩:=hm2.two
   obtain⟨k0,k1,k2⟩:=hm2.kt
   have dA:∀ O,(W2.alloc O).cell? ⟨pb,1,none⟩=some (.map (some mb)):=fun O=>(hm2.two.alloc O).2.1
   have hlp:(grp (bkt s) (plc l 0)).length≤1000000:=by have:=grp_len (bkt s) (plc l 0);rw[plc_len] at this;omega
   have hlm:(l:List ByteArray).length<maxLen:=by unfold maxLen;omega
   clear hm2
   go_upto_region 5 with fail
   go_cut [] (fun wx=>∃ va' G',PoolAt wx pb va' (.map (some mb)) G' (l++[s])∧Kept (blkS pb va (.map om) G) (blkS pb va' (.map (some mb)) G') w wx∧Two wx w.heap.size (.int .u64 0) (.int .u32 0)∧Three wx kb (totF l,s)∧¬ blkS pb va' (.map (some mb)) G' w.heap.size)
   case first =>
    go_region_law (refine step_kappend rfl (.tmp 46) (.tmp 48) rfl (G (bkt s)) (grp (bkt s) (plc l 0)) (totF l,s) _ 1 (HX.out _ (by go_grown)) (three_new _ (totF l,s) _) hlp (by simp[Act.eval,Act.put]) (by simp[Act.eval,Act.put]) ?_;intro v' w7 hown7 hgr7 hloc7;obtain⟨a7,n7,p7,rfl⟩:=hown7.form3;have f7:=(HM2.out.two7 (by go_grown) hgr7 (HP.out.n2 _)).2.1;obtain⟨w8,hup,hmap8,hgr8⟩:=(HM2.out.map7 (by go_grown) hgr7).put hlm (bkt s) hwf _ ⟨a7,n7,p7,rfl⟩;have hfin:=pool_of HP.out HM.out.lg HM.out.la HM.out.nm HM.out.om HM.out.lr HM.out.lk hg HM2.out (by go_grown) hown7 hgr7 hloc7 hmap8 hgr8)
    all_goals
     go_wp2_with fail
     go_meet
     case rel=>exact⟨_,_,hfin⟩
   case rest =>
    obtain⟨va2,G2,hp2,hk2,ht2,h32,hr2⟩:=hcut
    generalize wc=W5 at *
    clear d0 d1 d2 d3 k0 k1 k2 dA HX hlp hl0 hl1 hl2
    obtain⟨t0,t1,t2,t3⟩:=ht2
    obtain⟨k0,k1,k2⟩:=h32
    have HF:=Lib.hid (And.intro hp2 (And.intro hk2 hr2))
    have HT2:=Lib.hid (show Two W5 w.heap.size (.int .u64 0) (.int .u32 0) from ⟨t0,t1,t2,t3⟩)
    have hnk:=HM.out.nk
    clear hp2 hk2 hr2
    go_wp2_with fail
    refine bodyPost_ret (results_ct1 rfl _ _ w.heap.size _ _ _ rfl (HT2.out.set _ _).1 (HT2.out.set _ _).2.1 Tryz.underlying147 rfl pct_size) rfl ⟨rfl,va2,.map (some mb),G2,HF.out.1.set2 _ HF.out.2.2 _ _,HF.out.2.1.set2 _ (Nat.le_refl _) _ _⟩
def BuildAt (w:World) (B b:Nat) (l:List UInt8):Prop:=Lib.BuilderAt 175 5 B b (.pointer (some ⟨b,0,none⟩)) (Lib.byteCells l) w
theorem BuildAt.alloc {w:World} {B b:Nat} {l:List UInt8} (h:BuildAt w B b l) (o:Obj):BuildAt (w.alloc o) B b l:=by
 obtain⟨h1,v,h2,h3,h4⟩:=h
 have hb:b<w.heap.size:=(Array.getElem?_eq_some_iff.1 h2).1
 exact⟨h1,v,((below_one w o).block b hb).trans h2,h3.alloc o,h4⟩
theorem bgrow_any (B b n:Nat) (w:World) (hB:B≤b) (hbk:w.heap[b]?=some (.cells #[.pointer none,.slice none 0 0] 175 (0,0))) (hBw:B≤w.heap.size) (hn:n≤281474976710656) :
  Calls Tryz.prog 85 #[.pointer (some ⟨b,0,none⟩),.int .i64 n] w fun e w'=>e=.returned (.tuple #[])∧BuildAt w' B b []∧Below B w w' :=
 Any.Builder_Grow_fresh bgL bgLX B b n w hB hbk hBw hn
theorem bwrite_any (B b:Nat) (l:List UInt8) (s:ByteArray) (w:World) (h:BuildAt w B b l) (hlen:l.length+s.size≤140737488355328) (hBw:B≤w.heap.size) :
  Calls Tryz.prog 86 #[.pointer (some ⟨b,0,none⟩),.string s] w fun e w'=>e=.returned (.tuple #[.int .i64 s.size,.nilIface])∧BuildAt w' B b (l++s.data.toList)∧Below B w w':=by
 refine(Any.Builder_WriteString bwL bwLX B b (Lib.byteCells l) s w (.inr h) (by rw[Lib.byteCells_length];exact hlen) hBw).mono ?_
 rintro e w' ⟨rfl,h1,h2⟩
 refine⟨rfl,?_,h2⟩
 unfold BuildAt
 have e:Lib.byteCells (l++s.data.toList)=Lib.byteCells l++Lib.strCells s:=by simp[Lib.byteCells,Lib.strCells]
 rw[e];exact h1
theorem bstr_any (B b:Nat) (l:List UInt8) (w:World) (h:BuildAt w B b l) (hBw:B≤w.heap.size) :
  Calls Tryz.prog 87 #[.pointer (some ⟨b,0,none⟩)] w fun e w'=>e=.returned (.string ⟨l.toArray⟩)∧Below B w w' :=
 Any.Builder_String_any bsL bsLX B b l w (.inr h) hBw
def catB:List ByteArray→List UInt8
 | []=>[]
 | t :: l=>t.data.toList++catB l
theorem catB_eq (l:List ByteArray):(⟨(catB l).toArray⟩:ByteArray)=catF l:=by
 induction l with
 | nil=>rfl
 | cons t l ih =>
  rw[catF,← ih,catB]
  apply ByteArray.ext
  simp
theorem catB_append (a b:List ByteArray):catB (a++b)=catB a++catB b:=by
 induction a with
 | nil=>rfl
 | cons t l ih=>rw[List.cons_append,catB,catB,ih,List.append_assoc]
theorem catB_step (l:List ByteArray) (k:Nat) (t:ByteArray) (h:l[k]?=some t):catB (l.take (k+1))=catB (l.take k)++t.data.toList:=by
 rw[List.take_add_one,h,catB_append];simp[catB]
theorem catB_len (l:List ByteArray):(catB l).length=totF l:=by
 induction l with
 | nil=>rfl
 | cons t l ih=>rw[catB,totF,List.length_append,ih];simp
set_option maxRecDepth 20000 in
set_option maxHeartbeats 1000000 in
theorem text_any (v:Value) (l:List ByteArray) (S:Nat→Prop) (w:World) (h:PoolS w v l S) :
  Calls Tryz.prog 73 #[v] w fun e w'=>e=.returned (.string (catF l))∧Below w.heap.size w w':=by
 obtain⟨pb,va,vm,G,rfl,hP,hS⟩:=h
 have htot:=hP.good.tot
 have hfew:=hP.good.few
 obtain⟨al,cap,rfl,hcap,hmx,hc⟩:=hP.all.ktsAt
 rw[plc_len] at *
 have HC:=Lib.hid (fun k t (h:l[k]?=some t)=>hc k _ (plc_at l 0 k t h))
 have hb0:=below_one w (.cells #[.pointer none,.slice none 0 0] 175)
 have HN:=Lib.hid (heap_new w (.cells #[.pointer none,.slice none 0 0] 175))
 have HE:=Lib.hid (end_any _ pb _ vm G l (hP.below hb0))
 have HP:=Lib.hid hP
 have HB0:=Lib.hid hb0
 have hw1:IntKind.i64.wrap ((totF l:Nat):Int)=((totF l:Nat):Int):=by rw[IntKind.wrap_i64] <;> omega
 have hpl:=hP.two.lt
 clear hP hS hc hb0
 go_enter Tryz.func73,Tryz.ntmps73
 go_wp2_with fail
 generalize hW:w.alloc (.cells #[.pointer none,.slice none 0 0] 175)=W at *
 have hWs:W.heap.size=w.heap.size+1:=by rw[← hW];simp
 refine HE.out.mono ?_
 rintro e w1 ⟨rfl,hb1⟩
 have HB1:=Lib.hid hb1
 have hg1:w1.heap[w.heap.size]?=_:=(hb1.block w.heap.size (by omega)).trans HN.out
 have hbw1:=HB0.out.trans (hb1.mono HB0.out.size)
 have HG:=Lib.hid (bgrow_any w.heap.size w.heap.size (totF l) w1 (Nat.le_refl _) hg1 hbw1.size (by omega))
 have HBW1:=Lib.hid hbw1
 clear hb1 hg1 hbw1 HE
 go_wp2_with fail
 refine HG.out.mono ?_
 rintro e w2 ⟨rfl,hbt,hb2⟩
 have hbw2:=HBW1.out.trans hb2
 have HBT:=Lib.hid hbt
 have HBW2:=Lib.hid hbw2
 obtain⟨c0,c1,c2,c3⟩:=HP.out.two.lower hbw2 hpl
 clear hb2 hbt hbw2 HG HBW1
 go_wp2_with fail
 go_loopw [17] (fun x wr=>∃ i:Nat,i≤l.length∧x=.int .i64 i∧Hid (BuildAt wr w.heap.size w.heap.size (catB (l.take i)))∧Below w.heap.size w wr) (fun x _=>l.length - (intOf x).toNat)
 case atStart=>exact⟨0,Nat.zero_le _,rfl,HBT,HBW2.out⟩
 case round =>
  obtain⟨i,hi,rfl,HT,hbw⟩:=hrel
  by_cases hlt:i<l.length
  ·obtain⟨t,ht⟩:∃ t,l[i]?=some t:=⟨_,List.getElem?_eq_getElem hlt⟩
   obtain⟨g,off,rfl,hg,l0,l1,l2⟩:=HC.out i t ht
   replace l0:=(hbw.cell (p:=⟨g,off+i*3,none⟩) hg).trans l0
   replace l1:=(hbw.cell (p:=⟨g,off+i*3+1,none⟩) hg).trans l1
   replace l2:=(hbw.cell (p:=⟨g,off+i*3+2,none⟩) hg).trans l2
   have hi2:(i:Int)<(l.length:Int):=by omega
   have hsum:(catB (l.take i)).length+t.size≤140737488355328:=by
    rw[catB_len]
    have h1:=totF_take l i
    have h2:=mem_tot l t (List.mem_of_getElem? ht)
    omega
   have HST:=Lib.hid (catB_step l i t ht)
   have HBW:=Lib.hid hbw
   have HWR:=Lib.hid (fun X (hX:BuildAt X w.heap.size w.heap.size (catB (l.take i))) (hs:w.heap.size≤X.heap.size)=>bwrite_any w.heap.size w.heap.size _ t X hX hsum hs)
   clear ht hsum hbw
   go_wp2_with fail
   refine(HWR.out _ (HT.out.alloc _) (by have:=HBW.out.size;simp;omega)).mono ?_
   rintro e w3 ⟨rfl,hb3,hbel⟩
   have hfin:Below w.heap.size w w3:=(HBW.out.alloc HBW.out.size _).trans hbel
   have H3:=Lib.hid hb3
   clear hb3 hbel l0 l1 l2
   go_wp2_with fail
   go_roundw
   case rel=>exact⟨i+1,by omega,by go_num,Lib.hid (by rw[HST.out];exact H3.out),hfin⟩
   case measure=>simp[intOf];omega
  ·obtain rfl:i=l.length:=by omega
   rw[List.take_length] at HT
   have HBW:=Lib.hid hbw
   have HS:=Lib.hid (bstr_any w.heap.size w.heap.size (catB l) wr HT.out hbw.size)
   clear hbw
   go_wp2_with fail
   refine HS.out.mono ?_
   rintro e w3 ⟨rfl,hb3⟩
   have hfin:=HBW.out.trans hb3
   rw[catB_eq]
   clear hb3 HS
   go_wp2_with fail
   go_ret
   exact⟨rfl,hfin⟩
theorem heap_new2 (w:World) (o o':Obj):((w.alloc o).alloc o').heap[w.heap.size+1]?=some o':=by
 have h:=heap_new (w.alloc o) o'
 rw[World.size_alloc] at h
 exact h
theorem heap_old2 (w:World) (o o':Obj):((w.alloc o).alloc o').heap[w.heap.size]?=some o :=
 ((below_oneC (w.alloc o) o').block w.heap.size (by rw[World.size_alloc];omega)).trans (heap_new w o)
theorem p4_mono (a b:Nat) (h:a≤b):p4 a≤p4 b:=by
 induction h with
 | refl=>exact Int.le_refl _
 | step h ih=>simp only[p4];have:=p4_pos a;omega
theorem p4_top (k:Nat) (h:k≤26):p4 k≤4503599627370496:=p4_mono k 26 h
theorem toN (k:Nat):(k:Int).toNat=k:=Int.toNat_natCast k
theorem bas_top (k:Nat) (h:k≤27):bas k≤6004799503160661:=by
 have:=bas_mono k 27 h
 rw[bas_all] at this
 exact this
theorem bas_succ (k:Nat):bas (k+1)=bas k+p4 k:=rfl
def baD (z:Int):Int:=if 0≤z∧z≤27 then bas z.toNat else 0
def baE (z:Int):Int:=if 0≤z∧z≤27 then 0 else 2
def zofV (d:Int):Int:=zof 27 d
theorem zof_yes (d:Int) (h0:0≤d) (h1:d<6004799503160661):∃ k:Nat,k≤26∧bas k≤d∧d<bas k+p4 k∧zofV d=k:=by
 obtain⟨k,a,b,c,e⟩:=zof_ex 27 d h0 (by rw[bas_all];exact h1)
 exact⟨k,by omega,b,by rw[← bas_succ];exact c,e⟩
theorem zofV_no (d:Int) (h:¬ d<6004799503160661):zofV d=-1:=zof_no 27 d (by rw[bas_all];omega)
theorem rbase_any (z:Int) (w:World):Calls Tryz.prog 175 #[.int .i64 z] w fun e w'=>e=.returned (.tuple #[.int .u64 (baD z),.int .i64 (baE z)])∧w=w':=by
 by_cases h:0≤z∧z≤27
 ·rw[show baD z=bas z.toNat from if_pos h,show baE z=0 from if_pos h]
  obtain⟨h0,h1⟩:=h
  obtain⟨n,rfl⟩:∃ k:Nat,z=k:=⟨z.toNat,by omega⟩
  rw[toN]
  go_enter Tryz.func175,Tryz.ntmps175
  go_wp2_with fail
  go_loop [4,5,6] (fun p b i=>∃ k:Nat,k≤n∧i=.int .i64 k∧p=.int .u64 (p4 k)∧b=.int .u64 (bas k)) (fun _ _ i=>n - (intOf i).toNat)
  case atStart=>exact⟨0,Nat.zero_le _,rfl,rfl,rfl⟩
  case round =>
   obtain⟨k,hk,rfl,rfl,rfl⟩:=hrel
   by_cases hlt:k<n
   ·have ht:=p4_top k (by omega)
    have hp:=p4_pos k
    have hb:=bas_nn k
    have hb2:=bas_top k (by omega)
    have hs:p4 (k+1)=4*p4 k:=rfl
    have hs2:=bas_succ k
    go_wp2_with fail
    refine⟨⟨k+1,by omega,by go_num,by rw[hs],by rw[hs2]⟩,?_⟩
    simp[intOf];omega
   ·obtain rfl:k=n:=by omega
    go_wp2_with fail
    go_ret2
    exact⟨rfl,rfl⟩
 ·rw[show baD z=0 from if_neg h,show baE z=2 from if_neg h]
  by_cases h0:z<0
  ·clear h
   go_enter Tryz.func175,Tryz.ntmps175
   go_wp2_with fail
   go_ret2
   exact⟨rfl,rfl⟩
  ·have h1:27<z:=by omega
   clear h
   go_enter Tryz.func175,Tryz.ntmps175
   go_wp2_with fail
   go_ret2
   exact⟨rfl,rfl⟩
theorem two4 (k:Nat):((2 ^ (2*k):Nat):Int)=p4 k:=by
 induction k with
 | zero=>rfl
 | succ k ih=>rw[show 2*(k+1)=2*k+2 from by omega,Nat.pow_add,p4,← ih];omega
theorem len_zoom (X:Int) (n k:Nat) (h:Len n X) (h0:p4 k≤X) (h1:X<4*p4 k):n=2*k+1∨n=2*k+2:=by
 obtain⟨h64,h⟩:=h
 have hp:=p4_pos k
 have e:=two4 k
 have e2:=two4 (k+1)
 rw[p4] at e2
 rcases h with ⟨rfl,h⟩|⟨hn,ha,hb⟩
 ·omega
 have g1:2*k<n:=by
  rcases Nat.lt_or_ge (2*k) n with hc|hc
  ·exact hc
  ·have:=Nat.pow_le_pow_right (by omega:0<2) hc
   omega
 have g2:n - 1<2*(k+1):=by
  rcases Nat.lt_or_ge (n - 1) (2*(k+1)) with hc|hc
  ·exact hc
  ·have:=Nat.pow_le_pow_right (by omega:0<2) hc
   omega
 omega
theorem zoom_any (d:Int) (d0:0≤d) (w:World):Calls Tryz.prog 153 #[.int .u64 d] w fun e w'=>e=.returned (.int .i64 (zofV d))∧w=w':=by
 by_cases h:d<6004799503160661
 ·obtain⟨k,hk,a,b,e⟩:=zof_yes d d0 h
  rw[e]
  have h3:=bas_three k
  have hl:=fun n hn=>len_zoom (3*d+1) n k hn (by omega) (by omega)
  have HL:=Lib.hid hl
  clear hl h3 a b e
  go_enter Tryz.func153,Tryz.ntmps153
  go_wp2_with fail
  refine(len64_any _ _ (by omega) (by omega)).mono ?_
  rintro e w' ⟨⟨n,rfl,hn⟩,rfl⟩
  have hs:=HL.out n hn
  clear hn HL
  go_wp2
  go_ret
  refine⟨?_,rfl⟩
  have:n=2*k+1∨n=2*k+2:=hs
  rcases this with rfl|rfl
  ·show Ending.returned (.int .i64 _)=.returned (.int .i64 _)
   congr 2
   omega
  ·show Ending.returned (.int .i64 _)=.returned (.int .i64 _)
   congr 2
   omega
 ·rw[zofV_no d h]
  go_enter Tryz.func153,Tryz.ntmps153
  go_wp2_with fail
  go_ret
  exact⟨rfl,rfl⟩
theorem rzoom_any (d:Int) (d0:0≤d) (w:World):Calls Tryz.prog 105 #[.int .u64 d] w fun e w'=>e=.returned (.int .i64 (zofV d))∧w=w':=by
 go_enter Tryz.func105,Tryz.ntmps105
 go_wp2_with fail
 go_loop [3] (fun i=>∃ m:Nat,m≤27∧i=.int .i64 ((m:Int) - 1)∧Hid (zofV d=zof m d)) (fun i=>(intOf i+1).toNat)
 case atStart=>exact⟨27,Nat.le_refl _,rfl,Lib.hid rfl⟩
 case round =>
  obtain⟨m,hm,rfl,HZ⟩:=hrel
  cases m with
  | zero =>
   go_wp2_with fail
   go_ret
   exact⟨by rw[HZ.out];rfl,rfl⟩
  | succ j =>
   have hj:((j+1:Nat):Int) - 1=j:=by omega
   rw[hj]
   clear hj
   have hb1:=rbase_any j
   rw[show baD j=bas j from by rw[show baD (j:Int)=bas (j:Int).toNat from if_pos (by omega),toN],show baE (j:Int)=0 from if_pos (by omega)] at hb1
   have hb2:=rbase_any (j+1:Int)
   rw[show baD (j+1:Int)=bas (j+1) from by rw[show baD (j+1:Int)=bas (j+1:Int).toNat from if_pos (by omega)];rfl,show baE (j+1:Int)=0 from if_pos (by omega)] at hb2
   have HB1:=Lib.hid hb1
   have HB2:=Lib.hid hb2
   clear hb1 hb2
   have hE:zof (j+1) d=if bas j≤d∧d<bas (j+1) then (j:Int) else zof j d:=rfl
   have HE:=Lib.hid hE
   clear hE
   have n1:=bas_nn j
   have t1:=bas_top (j+1) hm
   have n2:=bas_mono j (j+1) (by omega)
   generalize bas j=b1 at *
   generalize bas (j+1)=b2 at *
   by_cases h1:b1≤d
   ·by_cases h2:d<b2
    ·go_wp2_with fail
     refine(HB1.out _).mono ?_
     rintro e w' ⟨rfl,rfl⟩
     go_wp2_with fail
     refine(HB2.out _).mono ?_
     rintro e w' ⟨rfl,rfl⟩
     go_wp2_with fail
     go_ret
     exact⟨by rw[HZ.out,HE.out,if_pos ⟨h1,h2⟩];rfl,rfl⟩
    ·go_wp2_with fail
     refine(HB1.out _).mono ?_
     rintro e w' ⟨rfl,rfl⟩
     go_wp2_with fail
     refine(HB2.out _).mono ?_
     rintro e w' ⟨rfl,rfl⟩
     go_wp2_with fail
     refine⟨⟨j,by omega,rfl,Lib.hid (by rw[HZ.out,HE.out,if_neg (by omega)])⟩,?_⟩
     simp only[intOf];omega
   ·go_wp2_with fail
    refine(HB1.out _).mono ?_
    rintro e w' ⟨rfl,rfl⟩
    go_wp2_with fail
    refine(HB2.out _).mono ?_
    rintro e w' ⟨rfl,rfl⟩
    go_wp2_with fail
    refine⟨⟨j,by omega,rfl,Lib.hid (by rw[HZ.out,HE.out,if_neg (by omega)])⟩,?_⟩
    simp only[intOf];omega
def zlo:List It→Int
 | []=>0
 | t :: _=>zofV (t.1:Int)
def zhi (l:List It):Int:=match l.getLast? with|none=>0|some t=>zofV (t.1:Int)
set_option maxRecDepth 20000 in
set_option maxHeartbeats 1000000 in
theorem rzooms_any (v:Value) (l:List It) (w:World) (hv:ItsAt w v l) :
  Calls Tryz.prog 43 #[v] w fun e w'=>e=.returned (.tuple #[.int .i64 (zlo l),.int .i64 (zhi l),.bool (decide (0<l.length))])∧Below w.heap.size w w':=by
 obtain⟨al,cap,rfl,hcap,hmx,hc⟩:=hv
 have hmx':l.length≤maxLen:=by omega
 unfold maxLen at hmx'
 cases l with
 | nil =>
  go_enter Tryz.func43,Tryz.ntmps43
  go_wp2_with fail
  refine bodyPost_ret (results_tmp3 rfl _ _ _) rfl ⟨rfl,Below.refl _ _⟩
 | cons t m =>
  obtain⟨n,hn⟩:∃ n,(t :: m).length=n+1:=⟨m.length,by simp⟩
  obtain⟨u,hu⟩:∃ u,(t :: m)[n]?=some u:=⟨_,List.getElem?_eq_getElem (by omega)⟩
  obtain⟨g,off,rfl,hg,c0,c1⟩:=hc 0 t rfl
  obtain⟨g',off',e,hg',d0,d1⟩:=hc n u hu
  injection e with e
  injection e with e1 e2
  subst e1 e2
  have hlast:zhi (t :: m)=zofV (u.1:Int):=by
   unfold zhi
   rw[List.getLast?_eq_getElem?,hn,Nat.add_sub_cancel,hu]
  have hpos:decide (0<(t :: m).length)=true:=decide_eq_true (by omega)
  rw[hlast,hpos,show zlo (t :: m)=zofV (t.1:Int) from rfl]
  rw[hn] at hcap hmx' ⊢
  obtain⟨x,s⟩:=t
  obtain⟨y,s'⟩:=u
  simp only at c0 c1 d0 d1 ⊢
  have HZ1:Hid (∀ W,Calls Tryz.prog 105 #[.int .u64 x] W fun e w'=>e=.returned (.int .i64 (zofV x))∧w'=W):=Lib.hid (fun W=>(rzoom_any (x:Int) (by omega) W).mono (fun e w' h=>⟨h.1,h.2.symm⟩))
  have HZ2:Hid (∀ W,Calls Tryz.prog 105 #[.int .u64 y] W fun e w'=>e=.returned (.int .i64 (zofV y))∧w'=W):=Lib.hid (fun W=>(rzoom_any (y:Int) (by omega) W).mono (fun e w' h=>⟨h.1,h.2.symm⟩))
  generalize zofV (x:Int)=zx at *
  generalize zofV (y:Int)=zy at *
  simp only[Nat.zero_mul,Nat.add_zero] at c0 c1
  clear hc hu hlast hpos hg'
  go_enter Tryz.func43,Tryz.ntmps43
  go_wp2_with fail
  go_quiet (first|(go_at_call 105;(with_reducible refine Calls.quiet_of_same (HZ1.out _)))|(go_at_call 105;(with_reducible refine Calls.quiet_of_same (HZ2.out _))))
  go_wp2_with fail
  refine bodyPost_ret (results_tmp3 rfl _ _ _) rfl ⟨rfl,⟨rfl,rfl,rfl,Nat.le_refl _,fun _ _=>rfl⟩⟩
end Go.Proofs.YtdnmgpcfgcidbaaGreatDoor
namespace Go.Proofs.YtdnmgpcfgcidbaaGreatDoor
set_option linter.unusedVariables false
set_option linter.unusedSimpArgs false
set_option maxRecDepth 20000
def backG:List En→ByteArray→List It→Int→List It × Int
 | [],_,out,_=>(out,0)
 | e :: l,d,out,m =>
  if e.rn=0 then ([],14) else if (d.size:Int)<e.off+e.ln then ([],8) else if 2048<m+e.rn then ([],21) else if 65536<e.ln then ([],5)
  else backG l d (out++runN e d) (m+e.rn)
def backN (l:List En) (d:ByteArray):List It × Int:=if rowN l≠0 then ([],rowN l) else backG l d [] 0
structure TellE (e:En) (d:ByteArray):Prop where
 run:e.rn≠0
 inn:e.off+e.ln≤(d.size:Int)
 short:e.ln≤65536
theorem backG_ok:∀ (l:List En) (d:ByteArray) (out:List It) (m:Int),(∀ e ∈ l,TellE e d)→(∀ e ∈ l,0≤e.rn)→m+((l.map (·.rn)).sum)≤2048→backG l d out m=(out++expN l d,0)
 | [],d,out,m,_,_,_=>by simp[backG,expN]
 | e :: l,d,out,m,h,hr,hs=>by
  have he:=h e (by simp)
  have hsum:0≤(l.map (·.rn)).sum:=by
   have key:∀ l:List En,(∀ e ∈ l,0≤e.rn)→0≤(l.map (·.rn)).sum:=by
    intro l
    induction l with
    | nil=>intro _;simp
    | cons x l ih=>intro hx;rw[List.map_cons,List.sum_cons];have:=ih (fun e he=>hx e (by simp[he]));have:=hx x (by simp);omega
   exact key l (fun x hx=>hr x (by simp[hx]))
  rw[List.map_cons,List.sum_cons] at hs
  rw[backG,if_neg he.run,if_neg (by have:=he.inn;omega),if_neg (by omega),if_neg (by have:=he.short;omega),backG_ok l d _ _ (fun x hx=>h x (by simp[hx])) (fun x hx=>hr x (by simp[hx])) (by omega)]
  rw[List.append_assoc]
  rfl
theorem exp_len (l:List En) (d:ByteArray) (h:∀ e ∈ l,0≤e.rn):((expN l d).length:Int)=(l.map (·.rn)).sum:=by
 induction l with
 | nil=>rfl
 | cons e l ih =>
  have h1:=ih (fun x hx=>h x (by simp[hx]))
  have h2:=h e (by simp)
  unfold expN at h1 ⊢
  rw[List.flatMap_cons,List.length_append,List.map_cons,List.sum_cons,runN_len]
  omega
theorem cnt_sum (l:List En) (h:∀ e ∈ l,ckN e=0):cntN l=(l.map (·.rn)).sum:=by
 unfold cntN
 congr 1
 refine List.map_congr_left (fun e he=>?_)
 rw[if_pos (h e he)]
theorem back_whole {L:List It} (hg:GoodC L):backN (rowsS L).1 (catF (rowsS L).2)=(L,0)∧rowN (rowsS L).1=0∧NoOne (rowsS L).1∧cntN (rowsS L).1=(L.length:Int)∧(rowsS L).1.length≤L.length∧(∀ e ∈ (rowsS L).1,OkE e (rowsS L).2)∧GoodP (rowsS L).2:=by
 have h:=rinv_all hg
 have hr:∀ e ∈ (rowsS L).1,0≤e.rn:=fun e he=>by have:=(h.ok e he).run;omega
 have hs:=exp_len (rowsS L).1 (catF (rowsS L).2) hr
 rw[h.exp] at hs
 have hf:=hg.few
 have hrow:rowN (rowsS L).1=0:=by
  unfold rowN
  rw[if_neg (by have:=h.few;omega)]
  exact h.row
 refine⟨?_,hrow,h.one,?_,h.few,h.ok,h.good⟩
 ·unfold backN
  rw[if_neg (by simp[hrow]),backG_ok _ _ _ _ (fun e he=>?_) hr (by omega),h.exp]
  ·rfl
  ·have ho:=h.ok e he
   obtain⟨s,f1,f2⟩:=ho.txt
   have h1:=findF_le _ _ _ _ f1
   have h2:=h.good.short s ((findF_mem s _ 0).1 (by rw[f1];rfl))
   have h3:=ho.may
   have h4:=ho.run
   unfold MayN at h3
   exact⟨by omega,by rw[catF_size];omega,by omega⟩
 ·rw[cnt_sum _ (fun e he=>(h.ok e he).ck),hs]
end Go.Proofs.YtdnmgpcfgcidbaaGreatDoor
namespace Go.Proofs.YtdnmgpcfgcidbaaGreatDoor
set_option linter.unusedVariables false
set_option linter.unusedSimpArgs false
open Go.Maps
set_option maxRecDepth 20000
theorem tot_le {L:List It} (hg:GoodC L) (k:Nat) (hk:k≤L.length):totF (rowsS (L.take k)).2≤134217728:=(rinv_take hg k hk).good.tot
end Go.Proofs.YtdnmgpcfgcidbaaGreatDoor
namespace Go.Proofs.YtdnmgpcfgcidbaaGreatDoor
set_option linter.unusedVariables false
set_option linter.unusedSimpArgs false
open Go.RowKit
set_option maxRecDepth 20000
set_option maxHeartbeats 1000000 in
theorem zooms_any (s:Value) (l:List It) (w:World) (h:ChS w s l) :
  Calls Tryz.prog 88 #[.agg #[s]] w fun e w'=>e=.returned (.tuple #[.int .i64 (zlo l),.int .i64 (zhi l),.bool (decide (0<l.length))])∧Below w.heap.size w w':=by
 obtain⟨al,cap,rfl,hcap,hmx,hc⟩:=h.its
 have hfew:=h.good.few
 clear h
 cases l with
 | nil =>
  go_enter Tryz.func88,Tryz.ntmps88
  go_wp2_with fail
  refine bodyPost_ret (results_tmp3 rfl _ _ _) rfl ⟨rfl,by go_grown⟩
 | cons t m =>
  obtain⟨n,hn⟩:∃ n,(t :: m).length=n+1:=⟨m.length,by simp⟩
  obtain⟨u,hu⟩:∃ u,(t :: m)[n]?=some u:=⟨_,List.getElem?_eq_getElem (by omega)⟩
  obtain⟨g,off,rfl,hg,c0,c1⟩:=hc 0 t rfl
  obtain⟨g',off',e,hg',d0,d1⟩:=hc n u hu
  injection e with e
  injection e with e1 e2
  subst e1 e2
  have hlast:zhi (t :: m)=zofV (u.1:Int):=by
   unfold zhi
   rw[List.getLast?_eq_getElem?,hn,Nat.add_sub_cancel,hu]
  have hpos:decide (0<(t :: m).length)=true:=decide_eq_true (by omega)
  rw[hlast,hpos,show zlo (t :: m)=zofV (t.1:Int) from rfl]
  rw[hn] at hcap hfew ⊢
  obtain⟨x,s⟩:=t
  obtain⟨y,s'⟩:=u
  simp only at c0 c1 d0 d1 ⊢
  have HZ1:Hid (∀ W,Calls Tryz.prog 153 #[.int .u64 x] W fun e w'=>e=.returned (.int .i64 (zofV x))∧w'=W):=Lib.hid (fun W=>(zoom_any (x:Int) (by omega) W).mono (fun e w' h=>⟨h.1,h.2.symm⟩))
  have HZ2:Hid (∀ W,Calls Tryz.prog 153 #[.int .u64 y] W fun e w'=>e=.returned (.int .i64 (zofV y))∧w'=W):=Lib.hid (fun W=>(zoom_any (y:Int) (by omega) W).mono (fun e w' h=>⟨h.1,h.2.symm⟩))
  generalize zofV (x:Int)=zx at *
  generalize zofV (y:Int)=zy at *
  simp only[Nat.zero_mul,Nat.add_zero] at c0 c1
  have hi1:IntKind.i64.wrap ((n:Int)+1 - 1)=(n:Int):=by rw[IntKind.wrap_i64];omega
  have hi2:(n:Int)<(n:Int)+1:=by omega
  have hi3:((n:Int)+1 == 0)=false:=by rw[beq_eq_false_iff_ne];omega
  have hi4:(0:Int)<(n:Int)+1:=by omega
  have hi5:IntKind.i64.wrap (n:Int)=(n:Int):=by rw[IntKind.wrap_i64];omega
  have c0a:∀ O,(w.alloc O).cell? ⟨g,off,none⟩=_:=fun O=>((below_oneC w O).cell (p:=⟨g,off,none⟩) hg).trans c0
  have c0b:∀ O O',((w.alloc O).alloc O').cell? ⟨g,off,none⟩=_:=fun O O'=>((below_oneC (w.alloc O) O').cell (p:=⟨g,off,none⟩) (by show g<_;rw[World.size_alloc];omega)).trans (c0a O)
  have c0c:∀ O O' O'',(((w.alloc O).alloc O').alloc O'').cell? ⟨g,off,none⟩=_:=fun O O' O''=>((below_oneC ((w.alloc O).alloc O') O'').cell (p:=⟨g,off,none⟩) (by show g<_;rw[World.size_alloc,World.size_alloc];omega)).trans (c0b O O')
  have c1a:∀ O,(w.alloc O).cell? ⟨g,off+1,none⟩=_:=fun O=>((below_oneC w O).cell (p:=⟨g,off+1,none⟩) hg).trans c1
  have c1b:∀ O O',((w.alloc O).alloc O').cell? ⟨g,off+1,none⟩=_:=fun O O'=>((below_oneC (w.alloc O) O').cell (p:=⟨g,off+1,none⟩) (by show g<_;rw[World.size_alloc];omega)).trans (c1a O)
  have c1c:∀ O O' O'',(((w.alloc O).alloc O').alloc O'').cell? ⟨g,off+1,none⟩=_:=fun O O' O''=>((below_oneC ((w.alloc O).alloc O') O'').cell (p:=⟨g,off+1,none⟩) (by show g<_;rw[World.size_alloc,World.size_alloc];omega)).trans (c1b O O')
  have d0a:∀ O,(w.alloc O).cell? ⟨g,off+n*2,none⟩=_:=fun O=>((below_oneC w O).cell (p:=⟨g,off+n*2,none⟩) hg).trans d0
  have d0b:∀ O O',((w.alloc O).alloc O').cell? ⟨g,off+n*2,none⟩=_:=fun O O'=>((below_oneC (w.alloc O) O').cell (p:=⟨g,off+n*2,none⟩) (by show g<_;rw[World.size_alloc];omega)).trans (d0a O)
  have d0c:∀ O O' O'',(((w.alloc O).alloc O').alloc O'').cell? ⟨g,off+n*2,none⟩=_:=fun O O' O''=>((below_oneC ((w.alloc O).alloc O') O'').cell (p:=⟨g,off+n*2,none⟩) (by show g<_;rw[World.size_alloc,World.size_alloc];omega)).trans (d0b O O')
  have d1a:∀ O,(w.alloc O).cell? ⟨g,off+n*2+1,none⟩=_:=fun O=>((below_oneC w O).cell (p:=⟨g,off+n*2+1,none⟩) hg).trans d1
  have d1b:∀ O O',((w.alloc O).alloc O').cell? ⟨g,off+n*2+1,none⟩=_:=fun O O'=>((below_oneC (w.alloc O) O').cell (p:=⟨g,off+n*2+1,none⟩) (by show g<_;rw[World.size_alloc];omega)).trans (d1a O)
  have d1c:∀ O O' O'',(((w.alloc O).alloc O').alloc O'').cell? ⟨g,off+n*2+1,none⟩=_:=fun O O' O''=>((below_oneC ((w.alloc O).alloc O') O'').cell (p:=⟨g,off+n*2+1,none⟩) (by show g<_;rw[World.size_alloc,World.size_alloc];omega)).trans (d1b O O')
  clear hc hu hlast hpos hg' hg c0 c1 d0 d1
  go_enter Tryz.func88,Tryz.ntmps88
  go_wp2_with fail
  go_region
  all_goals
   go_wp2_with fail
   go_region_with (first|(with_reducible refine(HZ1.out _).mono ?_;rintro e w1 ⟨rfl,rfl⟩)|(with_reducible refine(HZ2.out _).mono ?_;rintro e w1 ⟨rfl,rfl⟩))
   all_goals
    go_wp2_with fail
    refine bodyPost_ret (results_tmp3 rfl _ _ _) rfl ⟨rfl,by go_grown⟩
end Go.Proofs.YtdnmgpcfgcidbaaGreatDoor
