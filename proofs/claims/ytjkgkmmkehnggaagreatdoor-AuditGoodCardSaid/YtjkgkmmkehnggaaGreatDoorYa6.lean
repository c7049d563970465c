/- aPc aA aLu aHm aFb aFc aGd aGj aGt13 aMk aPe. -/
import Derived.Test.YtjkgkmmkehnggaaGreatDoorYa5
import Derived.DeepKeys5
import Derived.Test.YtjkgkmmkehnggaaGreatDoorYs
set_option maxHeartbeats 16000000
namespace Go.Proofs.YtjkgkmmkehnggaaGreatDoor
set_option linter.unusedVariables false
set_option linter.unusedSimpArgs false
open Go.RowKit
set_option maxRecDepth 20000
set_option maxRecDepth 20000 in
theorem xf1 (v:Value) (l:List En) (w:World) (hv:xam w v l) (hm:xaT l):Calls Tryz.prog 77 #[v] w fun x w'=>x=.returned (.int .i64 (xa2 l))∧Below w.heap.size w w':=by
 obtain⟨al,cap,rfl,hcap,_,hc⟩:=hv
 have HC:=lH hc
 have HM:=lH hm
 obtain⟨R,hR⟩:∃ R,xa2 l=R:=⟨_,rfl⟩
 rw[hR]
 clear hc hm
 by_cases h4:4096<l.length
 ·have hR2:R=21:=by rw[← hR,xa2,if_pos h4]
  subst hR2
  have hd:decide (4096<(l.length:Int))=true:=by simp;omega
  clear hR
  go_enter Tryz.func77,Tryz.ntmps77
  go_wp2_with fail
  go_ret
  exact⟨rfl,by go_grown⟩
 have hR2:xcX (-1) l=R:=by rw[← hR,xa2,if_neg h4]
 have HR:=lH hR2
 have hd:decide (4096<(l.length:Int))=false:=by simp;omega
 clear hR hR2
 go_enter Tryz.func77,Tryz.ntmps77
 go_wp2_with fail
 go_loopw [11] (fun s wr=>∃ i:Nat,i≤l.length∧s=.int .i64 i∧Hid (xcX (-1) (l.take i)=0)∧Below w.heap.size w wr) (fun s _=>l.length - (intOf s).toNat)
 case atStart=>exact⟨0,Nat.zero_le _,rfl,lH rfl,Below.refl _ _⟩
 case round =>
  obtain⟨i,hi,rfl,HG,hbw⟩:=hrel
  by_cases hlt:i<l.length
  ·obtain⟨e,he⟩:∃ t,l[i]?=some t:=⟨_,List.getElem?_eq_getElem hlt⟩
   obtain⟨g,off,rfl,hg,l0,l1,l2,l3⟩:=HC.out i e he
   have hme:=HM.out e (List.mem_of_getElem? he)
   have HK:=lH (fun W=>xfn e W hme)
   have HAt:=lH (xyR l i e he HG.out)
   have hi2:(i:Int)<(l.length:Int):=by omega
   have hcl:=xAE (Below.refl _ _) ⟨xfI hbw ⟨l0,l1,l2,l3⟩,hbw⟩
   have HE:Hid (¬ e.id≤-1):=lH (by have:=hme.1;omega)
   clear he hme l0 l1 l2 l3 hbw HG
   unfold eC at HK
   have HX:=lH (EAt.made wr e 147)
   have HBX:=lH (hcl.2.trans (((Below.refl wr.heap.size wr).alloc (Nat.le_refl _) (.cells (eC e) 147)).mono hcl.2.size))
   unfold eC at HX HBX
   by_cases h0:ckN e=0
   ·rw[h0] at HK
    have HCL:=lH hcl
    obtain⟨⟨k0,k1,k2,k3⟩,hbw⟩:=hcl
    clear hbw
    by_cases hz:i=0
    ·have hdz:decide (0<(i:Int))=false:=by simp;omega
     have hdn:decide (0<i)=false:=by simp;omega
     have HZ:=lH hz
     clear hz
     go_wp2_with fail
     refine(HK.out _).mono ?_
     rintro x w1 ⟨rfl,hb⟩
     have HS0:=xfS (Below.drew (Below.refl _ _)) (xfS hb ⟨HX.out,HBX.out⟩)
     clear hb k0 k1 k2 k3 HCL HX HBX
     go_upto_region 9 with fail
     refine wp_region_held_drew (S:=fun w'=>(w'.cell? ⟨wr.heap.size,0,none⟩=some (.int .u64 e.id)∧w'.cell? ⟨wr.heap.size,1,none⟩=some (.int .u64 e.off)∧w'.cell? ⟨wr.heap.size,2,none⟩=some (.int .u32 e.ln)∧w'.cell? ⟨wr.heap.size,3,none⟩=some (.int .u32 e.rn))∧Below w.heap.size w w') (by kernel_rfl) HS0 (fun hH0=>?_)
     refine tK 0 21 hH0 ?_
     refine tK 1 22 hH0 ?_
     refine tK 2 23 hH0 ?_
     refine tU 3 24 hH0 ?_
     refine tU 4 25 hH0 ?_
     refine tU 5 26 hH0 ?_
     refine tU 6 27 hH0 ?_
     refine tU 7 28 hH0 ?_
     refine tU 8 29 hH0 ?_
     refine tU 9 30 hH0 ?_
     refine tU 10 31 hH0 ?_
     refine tU 11 32 hH0 ?_
     refine tK 12 33 hH0 ?_
     refine wpAnyH_done (by kernel_rfl) ?_ _
     go_wp2_with fail
     go_roundw
     case rel =>
      refine⟨i+1,by omega,by go_num,lH (HAt.out.2 h0 ?_),hH0.2⟩
      unfold xz8
      rw[if_pos HZ.out]
      exact HE.out
     case measure=>simp[intOf];omega
    ·obtain⟨j,rfl⟩:∃ j,i=j+1:=⟨i - 1,by omega⟩
     obtain⟨f,hf⟩:∃ t,l[j]?=some t:=⟨_,List.getElem?_eq_getElem (by omega)⟩
     have hpv:xz8 l (j+1)=laN f:=by
      unfold xz8
      rw[if_neg (by omega),Nat.add_sub_cancel,List.getD_eq_getElem?_getD,hf]
      rfl
     rw[hpv] at HAt
     obtain⟨g',off',ha,hg',f0,f1,f2,f3⟩:=HC.out j f hf
     obtain⟨rfl,rfl⟩:g=g'∧off=off':=by simpa using ha
     have hmf:=HM.out f (List.mem_of_getElem? hf)
     have HLF:=lH (fun W=>xes f W hmf)
     unfold eC at HLF
     have HF:=lH (xfI HBX.out ⟨f0,f1,f2,f3⟩)
     have hij:((j+1:Nat):Int) - 1=(j:Int):=by omega
     have hwj:IntKind.i64.wrap (j:Int)=(j:Int):=by rw[IntKind.wrap_i64] <;> omega
     have hj2:(j:Int)<(l.length:Int):=by omega
     have hj0:(0:Int)≤(j:Int):=by omega
     generalize hgi:j+1=i at *
     have hdz:decide (0<(i:Int))=true:=by simp;omega
     have hdn:decide (0<i)=true:=by simp;omega
     obtain⟨q,hq⟩:∃ q,laN f=q:=⟨_,rfl⟩
     rw[hq] at HAt HLF
     clear hq hf f0 f1 f2 f3 hpv hz hmf
     by_cases hle:e.id≤q
     ·have hR:R=10:=by rw[← HR.out,HAt.out.1,if_neg (fun h=>h h0),if_pos hle]
      subst hR
      have hdl:decide (e.id≤q)=true:=by simpa using hle
      clear hle HAt
      go_wp2_with fail
      refine(HK.out _).mono ?_
      rintro x w1 ⟨rfl,hb⟩
      have HS0:=xhV (Below.drew (Below.refl _ _)) (xhV hb ⟨HX.out,HF.out,HBX.out⟩)
      clear hb k0 k1 k2 k3 HCL HX HBX HF
      go_upto_region 9 with fail
      refine wp_region_held_drew (S:=fun w'=>(w'.cell? ⟨wr.heap.size,0,none⟩=some (.int .u64 e.id)∧w'.cell? ⟨wr.heap.size,1,none⟩=some (.int .u64 e.off)∧w'.cell? ⟨wr.heap.size,2,none⟩=some (.int .u32 e.ln)∧w'.cell? ⟨wr.heap.size,3,none⟩=some (.int .u32 e.rn))∧(w'.cell? ⟨g,off+j*4,none⟩=some (.int .u64 f.id)∧w'.cell? ⟨g,off+j*4+1,none⟩=some (.int .u64 f.off)∧w'.cell? ⟨g,off+j*4+2,none⟩=some (.int .u32 f.ln)∧w'.cell? ⟨g,off+j*4+3,none⟩=some (.int .u32 f.rn))∧Below w.heap.size w w') (by kernel_rfl) HS0 (fun hH0=>?_)
      refine tK 0 21 hH0 ?_
      refine tK 1 22 hH0 ?_
      refine tK 2 23 hH0 ?_
      refine tK 3 24 hH0 ?_
      refine tK 4 25 hH0 ?_
      refine tK 5 26 hH0 ?_
      refine tK 6 27 hH0 ?_
      refine tK 7 28 hH0 ?_
      refine tK 8 29 hH0 ?_
      refine tK 9 30 hH0 ?_
      refine wpAnyH_ready (rs:=[10]) (by kernel_rfl) (by simp) ?_
      refine AllReadyH.cons rfl (fun K hK=>?_) AllReadyH.nil
      go_simp
      refine(HLF.out _).mono ?_
      rintro e w' ⟨rfl,hb⟩
      go_wp2_with fail
      refine hK.out _ _ (xhV hb hH0) (fun hH1=>?_)
      clear hK K hb hH0
      try simp only[Act.put,zsA,zsB,zsC]
      refine tK 11 32 hH1 ?_
      refine tK 12 33 hH1 ?_
      refine wpAnyH_done (by kernel_rfl) ?_ _
      go_wp2_with fail
      go_ret
      exact⟨rfl,hH1.2.2⟩
     ·have hdl:decide (e.id≤q)=false:=by simpa using hle
      have HG2:=lH (HAt.out.2 h0 hle)
      clear hle HAt
      go_wp2_with fail
      refine(HK.out _).mono ?_
      rintro x w1 ⟨rfl,hb⟩
      have HS0:=xhV (Below.drew (Below.refl _ _)) (xhV hb ⟨HX.out,HF.out,HBX.out⟩)
      clear hb k0 k1 k2 k3 HCL HX HBX HF
      go_upto_region 9 with fail
      refine wp_region_held_drew (S:=fun w'=>(w'.cell? ⟨wr.heap.size,0,none⟩=some (.int .u64 e.id)∧w'.cell? ⟨wr.heap.size,1,none⟩=some (.int .u64 e.off)∧w'.cell? ⟨wr.heap.size,2,none⟩=some (.int .u32 e.ln)∧w'.cell? ⟨wr.heap.size,3,none⟩=some (.int .u32 e.rn))∧(w'.cell? ⟨g,off+j*4,none⟩=some (.int .u64 f.id)∧w'.cell? ⟨g,off+j*4+1,none⟩=some (.int .u64 f.off)∧w'.cell? ⟨g,off+j*4+2,none⟩=some (.int .u32 f.ln)∧w'.cell? ⟨g,off+j*4+3,none⟩=some (.int .u32 f.rn))∧Below w.heap.size w w') (by kernel_rfl) HS0 (fun hH0=>?_)
      refine tK 0 21 hH0 ?_
      refine tK 1 22 hH0 ?_
      refine tK 2 23 hH0 ?_
      refine tK 3 24 hH0 ?_
      refine tK 4 25 hH0 ?_
      refine tK 5 26 hH0 ?_
      refine tK 6 27 hH0 ?_
      refine tK 7 28 hH0 ?_
      refine tK 8 29 hH0 ?_
      refine tK 9 30 hH0 ?_
      refine wpAnyH_ready (rs:=[10]) (by kernel_rfl) (by simp) ?_
      refine AllReadyH.cons rfl (fun K hK=>?_) AllReadyH.nil
      go_simp
      refine(HLF.out _).mono ?_
      rintro e w' ⟨rfl,hb⟩
      go_wp2_with fail
      refine hK.out _ _ (xhV hb hH0) (fun hH1=>?_)
      clear hK K hb hH0
      try simp only[Act.put,zsA,zsB,zsC]
      refine tK 11 32 hH1 ?_
      refine tK 12 33 hH1 ?_
      refine wpAnyH_done (by kernel_rfl) ?_ _
      go_wp2_with fail
      go_roundw
      case rel=>exact⟨i+1,by omega,by go_num,HG2,hH1.2.2⟩
      case measure=>simp[intOf];omega
   ·have hR:R=ckN e:=by rw[← HR.out,HAt.out.1,if_pos h0]
    obtain⟨r,hr⟩:∃ r,ckN e=r:=⟨_,rfl⟩
    rw[hr] at HK h0 hR
    subst hR
    have hne:(R != 0)=true:=by simp only[bne_iff_ne,ne_eq];exact h0
    clear h0 hr HAt HR
    have HCL:=lH hcl.2
    obtain⟨⟨k0,k1,k2,k3⟩,hbw⟩:=hcl
    clear hbw
    go_wp2_with fail
    refine(HK.out _).mono ?_
    rintro x w1 ⟨rfl,hb⟩
    have hb1:=lH (HBX.out.trans (hb.mono HBX.out.size))
    clear hb k0 k1 k2 k3 HCL
    go_wp2_with fail
    go_ret
    exact⟨rfl,hb1.out⟩
  ·obtain rfl:i=l.length:=by omega
   have hG:=HG.out
   rw[List.take_length] at hG
   have hR:R=0:=HR.out.symm.trans hG
   subst hR
   clear hG HG HR
   go_wp2_with fail
   go_ret
   exact⟨rfl,hbw⟩
theorem xDs {k l:IntKind} {a b c d:Int} (h:a=b) (g:c=d):Ending.returned (.tuple #[.int k a,.int l c])=.returned (.tuple #[.int k b,.int l d]):=by rw[h,g]
theorem xxf {k l m:IntKind} {a b c d e f:Int} (h:a=b) (g:c=d) (i:e=f):Ending.returned (.tuple #[.int k a,.int l c,.int m e])=.returned (.tuple #[.int k b,.int l d,.int m f]):=by rw[h,g,i]
end Go.Proofs.YtjkgkmmkehnggaaGreatDoor
namespace Go.Proofs.YtjkgkmmkehnggaaGreatDoor
set_option linter.unusedVariables false
set_option linter.unusedSimpArgs false
def kT:ByteArray:={ data:=#[116] }
def bl (n:Nat):List It:=(List.range n).map (fun i=>(3*i,kT))
theorem xtx (id:Nat) (s:ByteArray) (l:List It):xar (xhg id s l)=xar (xdt id l)+s.size:=by
 have h:=congrArg xar (xc8 id (xdt id l))
 rw[xbE] at h
 unfold xhg
 rw[xbE,xar]
 show xar (xhh id (xdt id l))+(s.size+xar (xid id (xdt id l)))=_
 omega
theorem xDD {l:List It} (h:∀ t ∈ l,t.2.size=1):xar l=l.length:=by
 induction l with
 | nil=>rfl
 | cons t l ih =>
  rw[xar,ih (fun x hx=>h x (by simp[hx])),h t (by simp),List.length_cons]
  omega
end Go.Proofs.YtjkgkmmkehnggaaGreatDoor
namespace Go.Proofs.YtjkgkmmkehnggaaGreatDoor
set_option linter.unusedVariables false
set_option linter.unusedSimpArgs false
open Go.RowKit
set_option maxRecDepth 20000
theorem xqR (s:Value) (l:List It) (w:World) (h:ChS w s l) :
  Calls Tryz.prog 88 #[.agg #[s]] w fun e w'=>e=.returned (.tuple #[.int .i64 (zlo l),.int .i64 (zhi l),.bool (decide (0<l.length))])∧Below w.heap.size w w':=by
 obtain⟨al,cap,rfl,hcap,hmx,hc⟩:=h.its
 have hfew:=h.good.few
 clear h
 cases l with
 | nil =>
  go_enter Tryz.func88,Tryz.ntmps88
  go_wp2_with fail
  refine bodyPost_ret (results_tmp3 rfl _ _ _) rfl ⟨rfl,by go_grown⟩
 | cons t m =>
  obtain⟨n,hn⟩:∃ n,(t :: m).length=n+1:=⟨m.length,by simp⟩
  obtain⟨u,hu⟩:∃ u,(t :: m)[n]?=some u:=⟨_,List.getElem?_eq_getElem (by omega)⟩
  obtain⟨g,off,rfl,hg,c0,c1⟩:=hc 0 t rfl
  obtain⟨g',off',e,hg',d0,d1⟩:=hc n u hu
  injection e with e
  injection e with e1 e2
  subst e1 e2
  have hlast:zhi (t :: m)=xhr (u.1:Int):=by
   unfold zhi
   rw[List.getLast?_eq_getElem?,hn,Nat.add_sub_cancel,hu]
  have hpos:decide (0<(t :: m).length)=true:=decide_eq_true (by omega)
  rw[hlast,hpos,show zlo (t :: m)=xhr (t.1:Int) from rfl]
  rw[hn] at hcap hfew ⊢
  obtain⟨x,s⟩:=t
  obtain⟨y,s'⟩:=u
  simp only at c0 c1 d0 d1 ⊢
  have HZ1:Hid (∀ W,Calls Tryz.prog 159 #[.int .u64 x] W fun e w'=>e=.returned (.int .i64 (xhr x))∧w'=W):=lH (fun W=>(xgh (x:Int) (by omega) W).mono (fun e w' h=>⟨h.1,h.2.symm⟩))
  have HZ2:Hid (∀ W,Calls Tryz.prog 159 #[.int .u64 y] W fun e w'=>e=.returned (.int .i64 (xhr y))∧w'=W):=lH (fun W=>(xgh (y:Int) (by omega) W).mono (fun e w' h=>⟨h.1,h.2.symm⟩))
  generalize xhr (x:Int)=zx at *
  generalize xhr (y:Int)=zy at *
  simp only[Nat.zero_mul,Nat.add_zero] at c0 c1
  have hi1:IntKind.i64.wrap ((n:Int)+1 - 1)=(n:Int):=by rw[IntKind.wrap_i64];omega
  have hi2:(n:Int)<(n:Int)+1:=by omega
  have hi3:((n:Int)+1 == 0)=false:=by rw[beq_eq_false_iff_ne];omega
  have hi4:(0:Int)<(n:Int)+1:=by omega
  have hi5:IntKind.i64.wrap (n:Int)=(n:Int):=by rw[IntKind.wrap_i64];omega
  have c0a:∀ O,(w.alloc O).cell? ⟨g,off,none⟩=_:=fun O=>((xah w O).cell (p:=⟨g,off,none⟩) hg).trans c0
  have c0b:∀ O O',((w.alloc O).alloc O').cell? ⟨g,off,none⟩=_:=fun O O'=>((xah (w.alloc O) O').cell (p:=⟨g,off,none⟩) (by show g<_;rw[World.size_alloc];omega)).trans (c0a O)
  have c0c:∀ O O' O'',(((w.alloc O).alloc O').alloc O'').cell? ⟨g,off,none⟩=_:=fun O O' O''=>((xah ((w.alloc O).alloc O') O'').cell (p:=⟨g,off,none⟩) (by show g<_;rw[World.size_alloc,World.size_alloc];omega)).trans (c0b O O')
  have c1a:∀ O,(w.alloc O).cell? ⟨g,off+1,none⟩=_:=fun O=>((xah w O).cell (p:=⟨g,off+1,none⟩) hg).trans c1
  have c1b:∀ O O',((w.alloc O).alloc O').cell? ⟨g,off+1,none⟩=_:=fun O O'=>((xah (w.alloc O) O').cell (p:=⟨g,off+1,none⟩) (by show g<_;rw[World.size_alloc];omega)).trans (c1a O)
  have c1c:∀ O O' O'',(((w.alloc O).alloc O').alloc O'').cell? ⟨g,off+1,none⟩=_:=fun O O' O''=>((xah ((w.alloc O).alloc O') O'').cell (p:=⟨g,off+1,none⟩) (by show g<_;rw[World.size_alloc,World.size_alloc];omega)).trans (c1b O O')
  have d0a:∀ O,(w.alloc O).cell? ⟨g,off+n*2,none⟩=_:=fun O=>((xah w O).cell (p:=⟨g,off+n*2,none⟩) hg).trans d0
  have d0b:∀ O O',((w.alloc O).alloc O').cell? ⟨g,off+n*2,none⟩=_:=fun O O'=>((xah (w.alloc O) O').cell (p:=⟨g,off+n*2,none⟩) (by show g<_;rw[World.size_alloc];omega)).trans (d0a O)
  have d0c:∀ O O' O'',(((w.alloc O).alloc O').alloc O'').cell? ⟨g,off+n*2,none⟩=_:=fun O O' O''=>((xah ((w.alloc O).alloc O') O'').cell (p:=⟨g,off+n*2,none⟩) (by show g<_;rw[World.size_alloc,World.size_alloc];omega)).trans (d0b O O')
  have d1a:∀ O,(w.alloc O).cell? ⟨g,off+n*2+1,none⟩=_:=fun O=>((xah w O).cell (p:=⟨g,off+n*2+1,none⟩) hg).trans d1
  have d1b:∀ O O',((w.alloc O).alloc O').cell? ⟨g,off+n*2+1,none⟩=_:=fun O O'=>((xah (w.alloc O) O').cell (p:=⟨g,off+n*2+1,none⟩) (by show g<_;rw[World.size_alloc];omega)).trans (d1a O)
  have d1c:∀ O O' O'',(((w.alloc O).alloc O').alloc O'').cell? ⟨g,off+n*2+1,none⟩=_:=fun O O' O''=>((xah ((w.alloc O).alloc O') O'').cell (p:=⟨g,off+n*2+1,none⟩) (by show g<_;rw[World.size_alloc,World.size_alloc];omega)).trans (d1b O O')
  clear hc hu hlast hpos hg' hg c0 c1 d0 d1
  go_enter Tryz.func88,Tryz.ntmps88
  go_wp2_with fail
  go_region
  all_goals
   go_wp2_with fail
   go_region_with (first|(with_reducible refine(HZ1.out _).mono ?_;rintro e w1 ⟨rfl,rfl⟩)|(with_reducible refine(HZ2.out _).mono ?_;rintro e w1 ⟨rfl,rfl⟩))
   all_goals
    go_wp2_with fail
    refine bodyPost_ret (results_tmp3 rfl _ _ _) rfl ⟨rfl,by go_grown⟩
theorem xuv (s b:Nat) (hs:s<18446744073709551616) (hb:b<256) (w:World) :
  Calls Tryz.prog 279 #[.int .u64 s,.int .u8 b] w fun e w'=>e=.returned (.int .u64 (xxI s b))∧w'=w:=by
 have h1:=bits_xor_u64_nat s b hs (by omega)
 have h2:=xBJ s b hs (by omega)
 have hw:IntKind.u64.wrap (b:Int)=(b:Int):=by rw[IntKind.wrap_u64];omega
 go_enter Tryz.func279,Tryz.ntmps279
 go_wp2
 go_ret
 refine⟨xaH ?_,rfl⟩
 rw[IntKind.wrap_u64]
 unfold xxI
 generalize (s ^^^ b)=y
 omega
theorem xr5 (s:ByteArray) (k:Nat) (h:k<s.size):s.data.toList.take (k+1)=s.data.toList.take k++[s[k]]:=by
 rw[List.take_succ_eq_append_getElem (by simpa using h)];rfl
theorem xvW (x:Nat) (s:ByteArray) (k:Nat) (h:k<s.size):xhk x (s.data.toList.take (k+1))=xxI (xhk x (s.data.toList.take k)) s[k].toNat:=by
 rw[xr5 s k h,xte]
theorem xsm (x:Nat) (s:ByteArray):xhk x (s.data.toList.take s.size)=xhk x s.data.toList:=by
 rw[List.take_of_length_le (by simp)]
theorem xBm (x0:Nat) (hx0:x0<18446744073709551616) (s:ByteArray) (hs:s.size≤maxLen) (w:World) :
  Calls Tryz.prog 280 #[.agg #[.int .u64 x0,.func (.func 279) #[] #[]],.string s] w fun e w'=>e=.returned (.int .u64 (xhk x0 s.data.toList))∧Below w.heap.size w w':=by
 have hs':=hs
 unfold maxLen at hs
 go_enter Tryz.func280,Tryz.ntmps280
 go_wp2
 go_loopw [5,11] (fun x i wr=>∃ k:Nat,k≤s.size∧i=.int .i64 k∧x=.int .u64 (xhk x0 (s.data.toList.take k):Nat)∧wr.cell? ⟨w.heap.size,1,none⟩=some (.func (.func 279) #[] #[])∧w.heap.size<wr.heap.size∧Below w.heap.size w wr) (fun _ i _=>s.size - (intOf i).toNat)
 case atStart=>exact⟨0,Nat.zero_le _,rfl,by rw[List.take_zero,xm0],by simp[go_sem],by simp,Below.alloc (Below.refl _ _) (Nat.le_refl _) _⟩
 case round =>
  obtain⟨k,hk,rfl,rfl,hc,hz,hbw⟩:=hrel
  by_cases hlt:k<s.size
  ·have HS:=lH (xvW x0 s k hlt)
   have hx:=xrX (s.data.toList.take k) x0 hx0
   have hb:s[k].toNat<256:=s[k].toNat_lt
   generalize xhk x0 (s.data.toList.take k)=x at *
   have HA:=lH (xuv x s[k].toNat hx hb)
   go_wp2_with fail
   go_quiet ((go_at_call 279;(with_reducible refine Calls.quiet_of_same (HA.out _))))
   have hd:Below w.heap.size w (wr.drewN nq):=hbw.trans ⟨rfl,rfl,rfl,Nat.le_refl _,fun _ _=>rfl⟩
   have hc':(wr.drewN nq).cell? ⟨w.heap.size,1,none⟩=some (.func (.func 279) #[] #[]):=hc
   have hz':w.heap.size<(wr.drewN nq).heap.size:=hz
   clear hc hz hbw HA
   generalize wr.drewN nq=wn at *
   go_wp2_with fail
   go_roundw
   case rel=>exact⟨k+1,by omega,by go_num,by rw[HS.out],hc',hz',hd⟩
   case measure=>simp[intOf];omega
  ·obtain rfl:k=s.size:=by omega
   have HW:=lH (xsm x0 s)
   generalize xhk x0 (s.data.toList.take s.size)=x at *
   go_wp2
   go_ret
   exact⟨xaH (by rw[HW.out]),hbw⟩
theorem xzj (s:ByteArray) (hs:s.size≤maxLen) (w:World) :
  Calls Tryz.prog 251 #[.string s] w fun e w'=>e=.returned (.int .u64 (xhk fSt s.data.toList))∧Below w.heap.size w w':=by
 have HO:=lH (fun W=>xBm fSt (by decide) s hs W)
 have he:((fSt:Nat):Int)=14695981039346656037:=rfl
 rw[he] at HO
 clear he
 go_enter Tryz.func251,Tryz.ntmps251
 go_wp2_with fail
 refine(HO.out _).mono ?_
 rintro y w1 ⟨rfl,hb⟩
 have HB:=lH hb
 clear hb
 go_wp2_with fail
 go_ret
 exact⟨rfl,HB.out⟩
theorem xst (x:Nat) (n:Int) (h1:1≤n):0≤(x:Int) % n∧(x:Int) % n<n:=⟨Int.emod_nonneg _ (by omega),Int.emod_lt_of_pos _ (by omega)⟩
theorem xoI (s:ByteArray) (hs:s.size≤maxLen) (n:Int) (n0:-9223372036854775808≤n) (n1:n≤9223372036854775807) (w:World) :
  Calls Tryz.prog 209 #[.string s,.int .i64 n] w fun e w'=>e=.returned (.int .i64 (xzU (xhk fSt s.data.toList) n))∧Below w.heap.size w w':=by
 have HS:=lH (fun W=>xzj s hs W)
 have hx:=xrX s.data.toList fSt (by decide)
 generalize xhk fSt s.data.toList=x at *
 by_cases h1:n<1
 ·have HB:=lH (show xzU x n=0 by unfold xzU;rw[if_pos h1])
  go_enter Tryz.func209,Tryz.ntmps209
  go_wp2_with fail
  go_ret
  exact⟨xaH HB.out.symm,Below.refl _ _⟩
 ·have HB:=lH (show xzU x n=(x:Int) % n by unfold xzU;rw[if_neg h1])
  have HQ:=lH (xst x n (by omega))
  have hw:IntKind.u64.wrap n=n:=by rw[IntKind.wrap_u64];omega
  have hn:¬ n=0:=by omega
  go_enter Tryz.func209,Tryz.ntmps209
  go_wp2_with fail
  refine(HS.out _).mono ?_
  rintro y w1 ⟨rfl,hb⟩
  have HBl:=lH hb
  clear hb HS
  go_wp2_with fail
  go_ret
  exact⟨xaH (by rw[HB.out];have:=HQ.out;unfold wrap64;omega),HBl.out⟩
theorem xBv (s:ByteArray) (t:Kt) (w:World):Calls Tryz.prog 210 #[.string s,.agg #[.int .u64 t.1,.int .u32 t.2.size,.string t.2]] w fun e w'=>e=.returned (.bool (decide (t.2=s)))∧Below w.heap.size w w':=by
 by_cases h:t.2=s
 ·have hd:=xiF h
  rw[decide_eq_true h]
  go_enter Tryz.func210,Tryz.ntmps210
  go_wp2_with fail
  go_ret
  exact⟨rfl,by go_grown⟩
 ·have hd:=xnc h
  rw[decide_eq_false h]
  go_enter Tryz.func210,Tryz.ntmps210
  go_wp2_with fail
  go_ret
  exact⟨rfl,by go_grown⟩
theorem xj3 (s:ByteArray) (hs:s.size≤maxLen) (w:World):Calls Tryz.prog 137 #[.string s] w fun e w'=>e=.returned (.int .i64 (bkt s))∧Below w.heap.size w w':=by
 have HB:=lH (fun W=>xoI s hs 2048 (by omega) (by omega) W)
 go_enter Tryz.func137,Tryz.ntmps137
 go_wp2_with fail
 refine(HB.out _).mono ?_
 rintro e w1 ⟨rfl,hb⟩
 have HBl:=lH hb
 clear hb
 go_wp2_with fail
 go_ret
 exact⟨rfl,HBl.out⟩
theorem xsq (w:World) (pb:Nat) (va vm:Value) (G:Int→Value) (l:List ByteArray) (h:PoolAt w pb va vm G l):Calls Tryz.prog 140 #[.pointer (some ⟨pb,0,none⟩)] w fun e w'=>e=.returned (.int .u64 (totF l))∧Below w.heap.size w w':=by
 obtain⟨c0,c1,_,_⟩:=h.two
 obtain⟨al,cap,rfl,hcap,hmx,hc⟩:=h.all.ktsAt
 rw[xdy] at *
 rcases List.eq_nil_or_concat l with rfl|⟨l',s,rfl⟩
 ·clear hc
  go_enter Tryz.func140,Tryz.ntmps140
  go_wp2_with fail
  go_ret
  exact⟨rfl,Below.refl _ _⟩
 ·rw[List.concat_eq_append] at *
  have hk:(plc (l'++[s]) 0)[l'.length]?=some (totF l',s):=by
   rw[xiz,List.getElem?_append_right (by rw[xdy];exact Nat.le_refl _),xdy];simp
  obtain⟨g,off,rfl,hg,d0,d1,d2⟩:=hc _ _ hk
  have HT:=lH h.good.tot
  have hlen:(l'++[s]).length=l'.length+1:=by simp
  have ht:totF (l'++[s])=totF l'+s.size:=by rw[xda,xi5]
  have hlb:=h.good.few
  rw[hlen] at *
  have hw1:IntKind.i64.wrap (l'.length:Int)=(l'.length:Int):=by rw[IntKind.wrap_i64] <;> omega
  have hi:((l'.length:Nat):Int)<((l'.length:Nat):Int)+1:=by omega
  have hi2:(0:Int)≤((l'.length:Nat):Int):=by omega
  dsimp only at d0 d1 d2
  have k0:∀ O,(w.alloc O).cell? ⟨pb,0,none⟩=_:=fun O=>xap ((Below.refl _ _).alloc (Nat.le_refl _) O) c0
  have k1:∀ O,(w.alloc O).cell? ⟨g,off+l'.length*3,none⟩=_:=fun O=>xap ((Below.refl _ _).alloc (Nat.le_refl _) O) d0
  have k2:∀ O,(w.alloc O).cell? ⟨g,off+l'.length*3+1,none⟩=_:=fun O=>xap ((Below.refl _ _).alloc (Nat.le_refl _) O) d1
  clear hc hk h
  go_enter Tryz.func140,Tryz.ntmps140
  go_wp2_with fail
  go_region
  all_goals
   go_wp2_with fail
   go_ret
   refine⟨xaH ?_,by go_grown⟩
   rw[ht]
   have:=HT.out
   rw[ht] at this
   simp only[IntKind.wrap_u64]
   omega
theorem xlA (w:World):(Op.equal 243 (.map none) (.map none)).run Tryz.prog w=.ok true w:=by
 rw[Op.equal,show Op.maxDepth=9999+1 from rfl]
 unfold Op.equalIn
 simp[go_sem]
theorem xkA (w:World):(binOp BinOp.eql 243 (.map none) (.map none)).run Tryz.prog w=.ok (.bool true) w:=by
 simp[binOp,go_sem,xlA]
theorem xlK (mb:Nat) (w:World):(Op.equal 243 (.map (some mb)) (.map none)).run Tryz.prog w=.ok false w:=by
 rw[Op.equal,show Op.maxDepth=9999+1 from rfl]
 unfold Op.equalIn
 simp[go_sem]
theorem xjE (mb:Nat) (w:World):(binOp BinOp.eql 243 (.map (some mb)) (.map none)).run Tryz.prog w=.ok (.bool false) w:=by
 simp[binOp,go_sem,xlK]
theorem xbu (w:World) (o:Obj):Below w.heap.size w (w.alloc o):=(Below.refl _ _).alloc (Nat.le_refl _) o
theorem xyW {w w3:World} {pb mb:Nat} {va:Value} {G:Int→Value} {l:List ByteArray} {s:ByteArray} (hP:PoolAt w pb va (.map (some mb)) G l) (h3:PoolAt w3 pb va (.map (some mb)) G l) (ht:Two w3 w.heap.size (.int .u64 0) (.int .u32 0)) (hb:Below w.heap.size w w3) (T:TypeId) :
  MidL w (w3.alloc (.cells #[.int .u64 (totF l:Nat),.int .u32 s.size,.string s] T)) pb w.heap.size w3.heap.size mb va (.map (some mb)) G l s:=by
 have h4:=h3.below (xbu w3 (.cells #[.int .u64 (totF l:Nat),.int .u32 s.size,.string s] T))
 have hr:=ht.lt
 refine⟨h4.two,h4.all,?_,h4.grps,xe2 w3 (totF l,s) T,ht.alloc _,Nat.le_refl _,by omega,by omega,h4.n5 mb rfl,.inl rfl,fun g hg=>(hP.all.lt g hg).2,fun k g hg=>((hP.grps k).lt g hg).2,Kept.below _ (hb.alloc hb.size _)⟩
 rcases h4.map with ⟨e,_⟩|⟨m,e,hm⟩
 ·cases e
 ·cases e;exact hm
theorem xxR {w w3:World} {pb:Nat} {va:Value} {G:Int→Value} {s:ByteArray} (hP:PoolAt w pb va (.map none) G []) (hG:∀ k,G k=xk4) (h3:PoolAt w3 pb va (.map none) G []) (ht:Two w3 w.heap.size (.int .u64 0) (.int .u32 0)) (hb:Below w.heap.size w w3) (T:TypeId) :
  MidL w (((w3.setCell ⟨pb,1,none⟩ (.map (some (w3.heap.size+1)))).alloc (.cells #[.int .u64 (totF []:Nat),.int .u32 s.size,.string s] T)).alloc (.map #[] 0)) pb w.heap.size w3.heap.size (w3.heap.size+1) va (.map none) G [] s:=by
 have hr:=ht.lt
 have hpw:=hP.two.lt
 have hp3:=h3.two.lt
 have hsz:(w3.setCell ⟨pb,1,none⟩ (.map (some (w3.heap.size+1)))).heap.size=w3.heap.size:=by simp
 have h2:Two (w3.setCell ⟨pb,1,none⟩ (.map (some (w3.heap.size+1)))) pb va (.map (some (w3.heap.size+1))):=by
  refine⟨?_,World.cell?_setCell_same _ _ _ h3.two.2.1,by simpa using h3.two.2.2.1,by simpa using h3.two.2.2.2⟩
  rw[World.cell?_setCell_other (h:=by simp)];exact h3.two.1
 have es:∀ b,b≠pb→(w3.setCell ⟨pb,1,none⟩ (.map (some (w3.heap.size+1)))).heap[b]?=w3.heap[b]?:=fun b hn=>Below.heap_setCell _ _ _ _ (by simpa using hn)
 have ha:xdv (w3.setCell ⟨pb,1,none⟩ (.map (some (w3.heap.size+1)))) 0 va (plc [] 0):=h3.all.keep (fun k hk=>es k (fun e=>h3.n1 (by rw[hk,e])))
 have hg:∀ k,xdv (w3.setCell ⟨pb,1,none⟩ (.map (some (w3.heap.size+1)))) 0 (G k) (grp k (plc [] 0)):=fun k=>(h3.grps k).keep (fun j hj=>es j (fun e=>h3.n2 k (by rw[hj,e])))
 have hrs:Two (w3.setCell ⟨pb,1,none⟩ (.map (some (w3.heap.size+1)))) w.heap.size (.int .u64 0) (.int .u32 0):=ht.keep (es _ (by omega))
 have hkp:Kept (xfX pb va (.map none) G) (xfX pb va (.map none) G) w (w3.setCell ⟨pb,1,none⟩ (.map (some (w3.heap.size+1)))):=(Kept.below _ hb).trans (xm9 _ _ _ _ (.inl rfl))
 generalize hv:Value.map (some (w3.heap.size+1))=mv at *
 generalize hw:w3.setCell ⟨pb,1,none⟩ mv=W3 at *
 have b1:=xbu W3 (.cells #[.int .u64 (totF []:Nat),.int .u32 s.size,.string s] T)
 have b2:=xbu (W3.alloc (.cells #[.int .u64 (totF []:Nat),.int .u32 s.size,.string s] T)) (.map #[] 0)
 have hm:=xfT.made (W3.alloc (.cells #[.int .u64 (totF []:Nat),.int .u32 s.size,.string s] T))
 have hk:=(xe2 W3 (totF [],s) T).below b2
 have hG':G=fun _=>xk4:=funext hG
 rw[hsz] at hk
 refine⟨?_,(ha.below b1).below b2,?_,fun k=>((hg k).below b1).below b2,hk,(hrs.alloc _).alloc _,Nat.le_refl _,by omega,by omega,by omega,.inr (by omega),fun g hg=>(hP.all.lt g hg).2,fun k g hg=>((hP.grps k).lt g hg).2,?_⟩
 ·rw[hv];exact(h2.alloc _).alloc _
 ·rw[hG']
  have e:(W3.alloc (.cells #[.int .u64 (totF []:Nat),.int .u32 s.size,.string s] T)).heap.size=w3.heap.size+1:=by simp[hsz]
  rw[e] at hm
  exact hm
 ·exact(hkp.trans (Kept.below _ b1)).trans (Kept.below _ b2)
set_option maxRecDepth 20000 in
theorem xzL (w:World) (pb:Nat) (va vm:Value) (G:Int→Value) (l:List ByteArray) (h:PoolAt w pb va vm G l) (s:ByteArray) (hg:GoodP (l++[s])) :
  Calls Tryz.prog 139 #[.pointer (some ⟨pb,0,none⟩),.int .i64 (bkt s),.string s] w fun e w'=>e=.returned (.agg #[.int .u64 (totF l:Nat),.int .u32 s.size])∧∃ va' vm' G',PoolAt w' pb va' vm' G' (l++[s])∧Kept (xfX pb va vm G) (xfX pb va' vm' G') w w':=by
 have hss:s.size≤65536:=hg.short s (by simp)
 have hwf:(Lit.int .i64 (bkt s)).wf=true:=by have:=xkt s;exact wf_i64 (by omega) (by omega)
 have hll:l.length≤2047:=by have:=hg.few;simp at this;omega
 have hB0:Below w.heap.size w (w.alloc (.cells #[.int .u64 0,.int .u32 0] 144)):=(Below.refl _ _).alloc (Nat.le_refl _) _
 have hP1:=h.below hB0
 have ht2:=xfg w (.int .u64 0) (.int .u32 0) 144
 have HE:=lH (xsq _ pb va vm G l hP1)
 have HC:=lH (fun W=>xpo s W (by omega))
 have hw1:IntKind.u32.wrap (s.size:Int)=(s.size:Int):=by rw[IntKind.wrap_u32];omega
 have HP:=lH h
 have HP1:=lH (And.intro hP1 (And.intro ht2 hB0))
 have hpm:=h.map
 have hpl:=h.two.lt
 clear h hP1 ht2 hB0
 go_enter Tryz.func139,Tryz.ntmps139
 go_wp2_with fail
 generalize hW1:w.alloc (.cells #[.int .u64 0,.int .u32 0] 144)=W1 at *
 have hWs:W1.heap.size=w.heap.size+1:=by rw[← hW1];simp
 refine HE.out.mono ?_
 rintro e w2 ⟨rfl,hb2⟩
 have HB2:=lH hb2
 clear hb2 HE
 go_wp2_with fail
 refine(HC.out _).mono ?_
 rintro e w3 ⟨rfl,hb3⟩
 have hb13:=HB2.out.trans (hb3.mono HB2.out.size)
 have hp3:=HP1.out.1.below hb13
 have HR3:=lH (And.intro hp3 (And.intro (HP1.out.2.1.below hb13) (HP1.out.2.2.trans (hb13.mono HP1.out.2.2.size))))
 obtain⟨c0,c1,c2,c3⟩:=hp3.two
 have hpl3:=hp3.two.lt
 have hne3:pb≠w3.heap.size:=by omega
 clear hb3 HB2 HC hp3 hb13
 obtain⟨om,rfl⟩:∃ om,vm=.map om:=by
  rcases hpm with ⟨e,_⟩|⟨mb,e,_⟩
  ·exact⟨_,e⟩
  ·exact⟨_,e⟩
 obtain⟨nb,q1,hy,hn⟩:∃ nb:Bool,(∀ W,(binOp BinOp.eql 243 (.map om) (.map none)).run Tryz.prog W=.ok (.bool nb) W)∧(nb=true→om=none∧l=[]∧∀ k,G k=xk4)∧(nb=false→∃ mb,om=some mb):=by
  rcases hpm with ⟨e,e2,hG⟩|⟨mb,e,hm⟩
  ·cases e
   exact⟨true,fun W=>xkA W,fun _=>⟨rfl,e2,hG⟩,fun h=>(by cases h)⟩
  ·cases e
   exact⟨false,fun W=>xjE mb W,fun h=>(by cases h),fun _=>⟨mb,rfl⟩⟩
 clear hpm
 go_upto_if 21 with fail
 generalize hkb:w3.heap.size=kb at *
 go_cut [] (fun wx=>∃ mb,MidL w wx pb w.heap.size kb mb va (.map om) G l s)
 case first =>
  cases nb with
  | true =>
   obtain⟨rfl,rfl,hG⟩:=hy rfl
   have q2:=fun t W=>run_makeMap (P:=Tryz.prog) t W
   have hne4:pb≠kb+1:=by omega
   have hM:=xxR (s:=s) HP.out hG HR3.out.1 HR3.out.2.1 HR3.out.2.2 252
   rw[hkb] at hM
   clear hG hy hn
   go_wp2_with fail
   go_meet
   case rel=>exact⟨_,hM⟩
  | false =>
   obtain⟨mb,rfl⟩:=hn rfl
   have hM:=xyW (s:=s) HP.out HR3.out.1 HR3.out.2.1 HR3.out.2.2 252
   rw[hkb] at hM
   go_wp2_with fail
   go_meet
   case rel=>exact⟨_,hM⟩
 case rest =>
  obtain⟨mb,hM⟩:=hcut
  generalize wc=W at *
  go_upto_region 4 with fail
  have HM:=lH hM
  have HX:=lH (fun X (hX:Below W.heap.size W X)=>hM.all.below hX)
  obtain⟨d0,d1,d2,d3⟩:=hM.two
  obtain⟨k0,k1,k2⟩:=hM.kt
  have dA:∀ O,(W.alloc O).cell? ⟨pb,0,none⟩=some va:=fun O=>(hM.two.alloc O).1
  have hlp:(plc l 0).length≤1000000:=by rw[xdy];omega
  clear hM HR3 HP1 c0 c1 c2 c3 hpl3 hne3 hW1 hWs hkb q1 hy hn
  go_cut [] (fun wx=>∃ v',Mid2 w wx pb w.heap.size kb mb va (.map om) v' G l s)
  case first =>
   go_region_law (refine xfJ rfl (.tmp 30) (.tmp 32) rfl va (plc l 0) (totF l,s) _ 1 (HX.out _ (by go_grown)) (xe2 _ (totF l,s) _) hlp (by simp[Act.eval,Act.put]) (by simp[Act.eval,Act.put]) ?_;intro v' w6 hown6 hgr6 hloc6;obtain⟨a6,n6,p6,rfl⟩:=hown6.form3;obtain⟨f2,hm2⟩:=xyk HP.out HM.out (by go_grown) hown6 hgr6 hloc6;obtain⟨f0,f1,f3,f4⟩:=f2)
   all_goals
    go_wp2_with fail
    go_meet
    case rel=>exact⟨_,hm2⟩
  case rest =>
   obtain⟨va',hm2⟩:=hcut
   generalize wc=W2 at *
   clear d0 d1 d2 d3 k0 k1 k2 dA HX hlp
   have HM2:=lH hm2
   have HX:=lH (fun X (hX:Below W2.heap.size W2 X)=>(hm2.grps (bkt s)).below hX)
   have HLK:=lH (fun X (hX:Below W2.heap.size W2 X)=>(hm2.map.below hX).look (bkt s) hwf)
   have hl0:=HLK.out W2.drew (by go_grown)
   have hl1:=fun O=>HLK.out (W2.alloc O).drew (by go_grown)
   have hl2:=fun O=>HLK.out (W2.drew.alloc O) (by go_grown)
   obtain⟨d0,d1,d2,d3⟩:=hm2.two
   obtain⟨k0,k1,k2⟩:=hm2.kt
   have dA:∀ O,(W2.alloc O).cell? ⟨pb,1,none⟩=some (.map (some mb)):=fun O=>(hm2.two.alloc O).2.1
   have hlp:(grp (bkt s) (plc l 0)).length≤1000000:=by have:=xq1 (bkt s) (plc l 0);rw[xdy] at this;omega
   have hlm:(l:List ByteArray).length<maxLen:=by unfold maxLen;omega
   clear hm2
   go_upto_region 5 with fail
   go_cut [] (fun wx=>∃ va' G',PoolAt wx pb va' (.map (some mb)) G' (l++[s])∧Kept (xfX pb va (.map om) G) (xfX pb va' (.map (some mb)) G') w wx∧Two wx w.heap.size (.int .u64 0) (.int .u32 0)∧xdX wx kb (totF l,s)∧¬ xfX pb va' (.map (some mb)) G' w.heap.size)
   case first =>
    go_region_law (refine xfJ rfl (.tmp 46) (.tmp 48) rfl (G (bkt s)) (grp (bkt s) (plc l 0)) (totF l,s) _ 1 (HX.out _ (by go_grown)) (xe2 _ (totF l,s) _) hlp (by simp[Act.eval,Act.put]) (by simp[Act.eval,Act.put]) ?_;intro v' w7 hown7 hgr7 hloc7;obtain⟨a7,n7,p7,rfl⟩:=hown7.form3;have f7:=(HM2.out.two7 (by go_grown) hgr7 (HP.out.n2 _)).2.1;obtain⟨w8,hup,hmap8,hgr8⟩:=(HM2.out.map7 (by go_grown) hgr7).put hlm (bkt s) hwf _ ⟨a7,n7,p7,rfl⟩;have hfin:=xzf HP.out HM.out.lg HM.out.la HM.out.nm HM.out.om HM.out.lr HM.out.lk hg HM2.out (by go_grown) hown7 hgr7 hloc7 hmap8 hgr8)
    all_goals
     go_wp2_with fail
     go_meet
     case rel=>exact⟨_,_,hfin⟩
   case rest =>
    obtain⟨va2,G2,hp2,hk2,ht2,h32,hr2⟩:=hcut
    generalize wc=W5 at *
    clear d0 d1 d2 d3 k0 k1 k2 dA HX hlp hl0 hl1 hl2
    obtain⟨t0,t1,t2,t3⟩:=ht2
    obtain⟨k0,k1,k2⟩:=h32
    have HF:=lH (And.intro hp2 (And.intro hk2 hr2))
    have HT2:=lH (show Two W5 w.heap.size (.int .u64 0) (.int .u32 0) from ⟨t0,t1,t2,t3⟩)
    have hnk:=HM.out.nk
    clear hp2 hk2 hr2
    go_wp2_with fail
    refine bodyPost_ret (xlS rfl _ _ w.heap.size _ _ _ rfl (HT2.out.set _ _).1 (HT2.out.set _ _).2.1 Tryz.underlying144 rfl xcC) rfl ⟨rfl,va2,.map (some mb),G2,HF.out.1.set2 _ HF.out.2.2 _ _,HF.out.2.1.set2 _ (Nat.le_refl _) _ _⟩
def xcF (w:World) (B b:Nat) (l:List UInt8):Prop:=Lib.BuilderAt 174 5 B b (.pointer (some ⟨b,0,none⟩)) (Lib.byteCells l) w
theorem xcF.alloc {w:World} {B b:Nat} {l:List UInt8} (h:xcF w B b l) (o:Obj):xcF (w.alloc o) B b l:=by
 obtain⟨h1,v,h2,h3,h4⟩:=h
 have hb:b<w.heap.size:=(Array.getElem?_eq_some_iff.1 h2).1
 exact⟨h1,v,((xbu w o).block b hb).trans h2,h3.alloc o,h4⟩
theorem xjT (B b n:Nat) (w:World) (hB:B≤b) (hbk:w.heap[b]?=some (.cells #[.pointer none,.slice none 0 0] 174 (0,0))) (hBw:B≤w.heap.size) (hn:n≤281474976710656) :
  Calls Tryz.prog 85 #[.pointer (some ⟨b,0,none⟩),.int .i64 n] w fun e w'=>e=.returned (.tuple #[])∧xcF w' B b []∧Below B w w' :=
 Any.Builder_Grow_fresh bgL bgLX B b n w hB hbk hBw hn
theorem xcf (B b:Nat) (l:List UInt8) (s:ByteArray) (w:World) (h:xcF w B b l) (hlen:l.length+s.size≤140737488355328) (hBw:B≤w.heap.size) :
  Calls Tryz.prog 86 #[.pointer (some ⟨b,0,none⟩),.string s] w fun e w'=>e=.returned (.tuple #[.int .i64 s.size,.nilIface])∧xcF w' B b (l++s.data.toList)∧Below B w w':=by
 refine(Any.Builder_WriteString bwL bwLX B b (Lib.byteCells l) s w (.inr h) (by rw[Lib.byteCells_length];exact hlen) hBw).mono ?_
 rintro e w' ⟨rfl,h1,h2⟩
 refine⟨rfl,?_,h2⟩
 unfold xcF
 have e:Lib.byteCells (l++s.data.toList)=Lib.byteCells l++Lib.strCells s:=by simp[Lib.byteCells,Lib.strCells]
 rw[e];exact h1
theorem xm2 (B b:Nat) (l:List UInt8) (w:World) (h:xcF w B b l) (hBw:B≤w.heap.size) :
  Calls Tryz.prog 87 #[.pointer (some ⟨b,0,none⟩)] w fun e w'=>e=.returned (.string ⟨l.toArray⟩)∧Below B w w' :=
 Any.Builder_String_any bsL bsLX B b l w (.inr h) hBw
def xjF:List ByteArray→List UInt8
 | []=>[]
 | t :: l=>t.data.toList++xjF l
theorem xze (l:List ByteArray):(⟨(xjF l).toArray⟩:ByteArray)=xb7 l:=by
 induction l with
 | nil=>rfl
 | cons t l ih =>
  rw[xb7,← ih,xjF]
  apply ByteArray.ext
  simp
theorem xl7 (a b:List ByteArray):xjF (a++b)=xjF a++xjF b:=by
 induction a with
 | nil=>rfl
 | cons t l ih=>rw[List.cons_append,xjF,xjF,ih,List.append_assoc]
theorem xqg (l:List ByteArray) (k:Nat) (t:ByteArray) (h:l[k]?=some t):xjF (l.take (k+1))=xjF (l.take k)++t.data.toList:=by
 rw[List.take_add_one,h,xl7];simp[xjF]
theorem xuh (l:List ByteArray):(xjF l).length=totF l:=by
 induction l with
 | nil=>rfl
 | cons t l ih=>rw[xjF,totF,List.length_append,ih];simp
set_option maxRecDepth 20000 in
theorem xvw (v:Value) (l:List ByteArray) (S:Nat→Prop) (w:World) (h:xcY w v l S) :
  Calls Tryz.prog 72 #[v] w fun e w'=>e=.returned (.string (xb7 l))∧Below w.heap.size w w':=by
 obtain⟨pb,va,vm,G,rfl,hP,hS⟩:=h
 have htot:=hP.good.tot
 have hfew:=hP.good.few
 obtain⟨al,cap,rfl,hcap,hmx,hc⟩:=hP.all.ktsAt
 rw[xdy] at *
 have HC:=lH (fun k t (h:l[k]?=some t)=>hc k _ (xBI l 0 k t h))
 have hb0:=xbu w (.cells #[.pointer none,.slice none 0 0] 174)
 have HN:=lH (xeD w (.cells #[.pointer none,.slice none 0 0] 174))
 have HE:=lH (xsq _ pb _ vm G l (hP.below hb0))
 have HP:=lH hP
 have HB0:=lH hb0
 have hw1:IntKind.i64.wrap ((totF l:Nat):Int)=((totF l:Nat):Int):=by rw[IntKind.wrap_i64] <;> omega
 have hpl:=hP.two.lt
 clear hP hS hc hb0
 go_enter Tryz.func72,Tryz.ntmps72
 go_wp2_with fail
 generalize hW:w.alloc (.cells #[.pointer none,.slice none 0 0] 174)=W at *
 have hWs:W.heap.size=w.heap.size+1:=by rw[← hW];simp
 refine HE.out.mono ?_
 rintro e w1 ⟨rfl,hb1⟩
 have HB1:=lH hb1
 have hg1:w1.heap[w.heap.size]?=_:=(hb1.block w.heap.size (by omega)).trans HN.out
 have hbw1:=HB0.out.trans (hb1.mono HB0.out.size)
 have HG:=lH (xjT w.heap.size w.heap.size (totF l) w1 (Nat.le_refl _) hg1 hbw1.size (by omega))
 have HBW1:=lH hbw1
 clear hb1 hg1 hbw1 HE
 go_wp2_with fail
 refine HG.out.mono ?_
 rintro e w2 ⟨rfl,hbt,hb2⟩
 have hbw2:=HBW1.out.trans hb2
 have HBT:=lH hbt
 have HBW2:=lH hbw2
 obtain⟨c0,c1,c2,c3⟩:=HP.out.two.lower hbw2 hpl
 clear hb2 hbt hbw2 HG HBW1
 go_wp2_with fail
 go_loopw [17] (fun x wr=>∃ i:Nat,i≤l.length∧x=.int .i64 i∧Hid (xcF wr w.heap.size w.heap.size (xjF (l.take i)))∧Below w.heap.size w wr) (fun x _=>l.length - (intOf x).toNat)
 case atStart=>exact⟨0,Nat.zero_le _,rfl,HBT,HBW2.out⟩
 case round =>
  obtain⟨i,hi,rfl,HT,hbw⟩:=hrel
  by_cases hlt:i<l.length
  ·obtain⟨t,ht⟩:∃ t,l[i]?=some t:=⟨_,List.getElem?_eq_getElem hlt⟩
   obtain⟨g,off,rfl,hg,l0,l1,l2⟩:=HC.out i t ht
   replace l0:=(hbw.cell (p:=⟨g,off+i*3,none⟩) hg).trans l0
   replace l1:=(hbw.cell (p:=⟨g,off+i*3+1,none⟩) hg).trans l1
   replace l2:=(hbw.cell (p:=⟨g,off+i*3+2,none⟩) hg).trans l2
   have hi2:(i:Int)<(l.length:Int):=by omega
   have hsum:(xjF (l.take i)).length+t.size≤140737488355328:=by
    rw[xuh]
    have h1:=xrW l i
    have h2:=xAf l t (List.mem_of_getElem? ht)
    omega
   have HST:=lH (xqg l i t ht)
   have HBW:=lH hbw
   have HWR:=lH (fun X (hX:xcF X w.heap.size w.heap.size (xjF (l.take i))) (hs:w.heap.size≤X.heap.size)=>xcf w.heap.size w.heap.size _ t X hX hsum hs)
   clear ht hsum hbw
   go_wp2_with fail
   refine(HWR.out _ (HT.out.alloc _) (by have:=HBW.out.size;simp;omega)).mono ?_
   rintro e w3 ⟨rfl,hb3,hbel⟩
   have hfin:Below w.heap.size w w3:=(HBW.out.alloc HBW.out.size _).trans hbel
   have H3:=lH hb3
   clear hb3 hbel l0 l1 l2
   go_wp2_with fail
   go_roundw
   case rel=>exact⟨i+1,by omega,by go_num,lH (by rw[HST.out];exact H3.out),hfin⟩
   case measure=>simp[intOf];omega
  ·obtain rfl:i=l.length:=by omega
   rw[List.take_length] at HT
   have HBW:=lH hbw
   have HS:=lH (xm2 w.heap.size w.heap.size (xjF l) wr HT.out hbw.size)
   clear hbw
   go_wp2_with fail
   refine HS.out.mono ?_
   rintro e w3 ⟨rfl,hb3⟩
   have hfin:=HBW.out.trans hb3
   rw[xze]
   clear hb3 HS
   go_wp2_with fail
   go_ret
   exact⟨rfl,hfin⟩
end Go.Proofs.YtjkgkmmkehnggaaGreatDoor
namespace Go.Proofs.YtjkgkmmkehnggaaGreatDoor
set_option linter.unusedVariables false
set_option linter.unusedSimpArgs false
open Go.RowKit Go.Maps Go.WideMaps
set_option maxRecDepth 20000
theorem xAS:laidOutB Tryz.prog=true:=by kernel_rfl
theorem xDa:Keyed Tryz.prog 273:=Keyed.of_law (deep_law_gate xAS (of_decide_eq_true (by kernel_rfl)) (of_decide_eq_true (by kernel_rfl)) (by kernel_rfl) (by kernel_rfl))
def klN (q:Int × Int):Lit:=.string (keyBytes [.int .u64 q.1,.int .u32 q.2])
def xtB (q:Int × Int):Prop:=(0≤q.1∧q.1≤18446744073709551615)∧(0≤q.2∧q.2≤4294967295)
theorem xva (n:Nat) (x:Int) (h0:0≤x) (h1:x≤18446744073709551615):Tryz.prog.keyLits (n+1) 44 [.int .u64 x]=some [.int .u64 x]:=by
 have hw:(Lit.int .u64 x).wf=true:=WalkArith.wf_u64 ⟨h0,h1⟩
 simp[Program.keyLits,Tryz.underlying44,hw]
theorem xvr (n:Nat) (x:Int) (h0:0≤x) (h1:x≤4294967295):Tryz.prog.keyLits (n+1) 73 [.int .u32 x]=some [.int .u32 x]:=by
 have hw:(Lit.int .u32 x).wf=true:=WalkArith.wf_u32 ⟨h0,h1⟩
 simp[Program.keyLits,Tryz.underlying73,hw]
theorem xoq (n:Nat) (q:Int × Int) (h:xtB q):Tryz.prog.keyLits (n+2) 273 [.int .u64 q.1,.int .u32 q.2]=some [.int .u64 q.1,.int .u32 q.2]:=by
 have hc:Tryz.prog.cellsOf 273=2:=by kernel_rfl
 have hc1:Tryz.prog.cellsOf 44=1:=by kernel_rfl
 have hc2:Tryz.prog.cellsOf 73=1:=by kernel_rfl
 have h1:=xva n q.1 h.1.1 h.1.2
 have h2:=xvr n q.2 h.2.1 h.2.2
 unfold Program.keyLits
 rw[Tryz.underlying273]
 simp[hc,hc1,hc2,h1,h2]
theorem xka (q:Int × Int):(Value.agg #[.int .u64 q.1,.int .u32 q.2]).formed Tryz.prog 273=true:=by
 have hc:Tryz.prog.cellsOf 273=2:=by kernel_rfl
 unfold Value.formed
 rw[Tryz.underlying273]
 simp[hc]
theorem xrT (q:Int × Int) (h:xtB q):keyOf Tryz.prog 273 (.agg #[.int .u64 q.1,.int .u32 q.2])=some (klN q):=by
 have hk:Tryz.prog.keyType 273=true:=by kernel_rfl
 have h3:=xoq (Tryz.prog.types.size - 1) q h
 have hs:Tryz.prog.types.size - 1+2=Tryz.prog.types.size+1:=by kernel_rfl
 rw[hs] at h3
 unfold keyOf
 rw[Tryz.underlying273]
 simp only[hk,xka q,Bool.and_self,if_true]
 show Option.map _ (Tryz.prog.keyLits (Tryz.prog.types.size+1) 273 [.int .u64 q.1,.int .u32 q.2])=_
 rw[h3]
 rfl
theorem xB0 {p q:Int × Int} (hp:xtB p) (hq:xtB q) (h:klN p=klN q):p=q:=by
 have h1:=xrT p hp
 have h2:=xrT q hq
 rw[h] at h1
 have h3:=xDa.inj h1 h2
 simp only[Value.agg.injEq,Array.mk.injEq,List.cons.injEq,Value.int.injEq,true_and,and_true] at h3
 exact Prod.ext h3.1 h3.2
theorem xq2 {p q:Int × Int} (hp:xtB p) (hq:xtB q):(klN p).sameKey (klN q)=decide (p=q):=by
 by_cases h:p=q
 ·subst h;simp[klN,Lit.sameKey]
 ·rw[decide_eq_false h]
  show (keyBytes _ == keyBytes _)=false
  rw[beq_eq_false_iff_ne]
  exact fun e=>h (xB0 hp hq (by unfold klN;rw[e]))
theorem xBV (q:Int × Int):WideAt.IsKeyLit (klN q):=trivial
theorem xye (l:List (Int × Int)) (h:∀ q ∈ l,xtB q):∃ d:List (Int × Int),(l.map klN).foldl addKey []=d.map klN∧d.length=unl l∧∀ q,q ∈ d↔q ∈ l:=by
 have key:∀ (n:Nat),n≤l.length→∃ d:List (Int × Int),((l.take n).map klN).foldl addKey []=d.map klN∧d.length=unl (l.take n)∧∀ q,q ∈ d↔q ∈ l.take n:=by
  intro n
  induction n with
  | zero=>intro _;exact⟨[],rfl,rfl,by simp⟩
  | succ n ih =>
   intro hn
   obtain⟨d,h1,h2,h3⟩:=ih (by omega)
   obtain⟨p,hp⟩:∃ p,l[n]?=some p:=⟨_,List.getElem?_eq_getElem (by omega)⟩
   have hpl:p ∈ l:=List.mem_of_getElem? hp
   have ht:l.take (n+1)=l.take n++[p]:=by rw[List.take_add_one,hp];rfl
   have hany:(d.map klN).any (fun y=>y.sameKey (klN p))=decide (p ∈ l.take n):=by
    rw[List.any_map]
    by_cases hm:p ∈ l.take n
    ·rw[decide_eq_true hm,List.any_eq_true]
     exact⟨p,(h3 p).2 hm,by simp[Function.comp,xq2 (h p hpl) (h p hpl)]⟩
    ·rw[decide_eq_false hm,List.any_eq_false]
     intro q hq
     have hql:q ∈ l:=List.mem_of_mem_take ((h3 q).1 hq)
     simp only[Function.comp,xq2 (h q hql) (h p hpl),decide_eq_true_eq]
     exact fun e=>hm (e ▸ (h3 q).1 hq)
   rw[ht,List.map_append,List.foldl_append,h1,xwn]
   simp only[List.map_cons,List.map_nil,List.foldl_cons,List.foldl_nil,addKey,hany]
   by_cases hm:p ∈ l.take n
   ·rw[if_pos hm,if_pos (decide_eq_true hm)]
    exact⟨d,rfl,h2,fun q=>by rw[List.mem_append,List.mem_singleton,h3];exact⟨.inl,fun e=>e.elim id (fun e=>e ▸ hm)⟩⟩
   ·rw[if_neg hm,if_neg (by simpa using hm)]
    exact⟨d++[p],by simp,by rw[List.length_append,h2];rfl,fun q=>by rw[List.mem_append,List.mem_append,h3]⟩
 have:=key l.length (Nat.le_refl _)
 rwa[List.take_length] at this
theorem xvn (H:Type) (u:DataW H) (l:List (Int × Int)) (h:∀ q ∈ l,xtB q):Maps.size (setOf u (l.map klN))=unl l:=by
 obtain⟨d,h1,h2,_⟩:=xye l h
 rw[size_setOf u _ (fun x hx=>by obtain⟨q,_,rfl⟩:=List.mem_map.1 hx;exact xBV q),h1,List.length_map,h2]
end Go.Proofs.YtjkgkmmkehnggaaGreatDoor
namespace Go.Proofs.YtjkgkmmkehnggaaGreatDoor
set_option linter.unusedVariables false
set_option linter.unusedSimpArgs false
open Go.RowKit Go.Shelf
set_option maxRecDepth 20000
attribute [local go_sem] Oper.semAt_some
abbrev Ok:={ e:En // xa1 e∧ckN e=0 }
open Classical in
noncomputable def tk (l:List En):List Ok:=l.filterMap fun e=>if h:xa1 e∧ckN e=0 then some ⟨e,h⟩ else none
theorem xDd:tk []=[]:=rfl
theorem xw7 (l:List En) (e:En) (h:xa1 e∧ckN e=0):tk (l++[e])=tk l++[⟨e,h⟩]:=by simp[tk,h]
theorem xCH (l:List En) (e:En) (h:¬ ckN e=0):tk (l++[e])=tk l:=by simp[tk,h]
theorem xsx (l:List En):(tk l).length≤l.length:=List.length_filterMap_le _ _
theorem xxk (l:List En) (k:Nat):tk (l.take k) <+: tk l:=by
 refine⟨tk (l.drop k),?_⟩
 unfold tk
 rw[← List.filterMap_append,List.take_append_drop]
theorem xCw (l:List En) (k:Nat) (e:En) (he:l[k]?=some e) (h:xa1 e∧ckN e=0):(tk (l.take k)).length<(tk l).length:=by
 obtain⟨r,hr⟩:=xxk l (k+1)
 rw[xdE l k e he,xw7 _ e h] at hr
 rw[← hr]
 simp
theorem xxe {β:Type} {J:β→World→Prop} {B:Nat} (hJ:AbidesFrom B J) {s:β} {W W':World} (h:J s W) (hb:Below W.heap.size W W'):J s W' :=
 hJ s W W' none h ⟨hb.os,hb.tape,hb.output,hb.size,fun k hk _=>hb.block k hk⟩ (fun r e=>by cases e)
theorem xg1 (n:Nat) (a:Option Addr) (len cap:Nat) (w:World) :
  CallsIn Fence.wide n Tryz.prog 160 #[.slice a len cap] w fun e w'=>e=.returned (.func (.func 217) #[] #[.pointer (some ⟨w.heap.size,0,none⟩)])∧w'=w.alloc (.cells #[.slice a len cap] 84):=by
 refine callsIn_of_wp Tryz.func160 rfl trivial ?_ rfl
 simp only[Tryz.ntmps160,List.size_toArray,List.length_cons,List.length_nil,Nat.reduceAdd,Nat.reduceSub,Array.replicate_succ,Array.replicate_zero,List.push_toArray,List.append_toArray,List.nil_append,List.cons_append]
 gi_wp2
 go_ret
 exact⟨rfl,rfl⟩
set_option maxRecDepth 100000 in
theorem xpU (n:Nat) (hn:1≤n) (lp Bs:Nat) (w₀:World) (v:Value) (zs:List En) (hm:xaT zs) (hv:xam w₀ v zs) (J Jx:List Ok→World→Prop)
  (W:World) (hW:Below w₀.heap.size w₀ W) (hJ:AbidesFrom W.heap.size J)
  (hY:∀ pre x W1,J pre W1→pre.length<(tk zs).length→YieldAt Fence.wide (n - 1) Tryz.prog lp #[.agg (eC x.1)] W1 fun e W' =>
   (e=.returned (.bool true)∧J (pre++[x]) W'∧Below w₀.heap.size W1 W')∨(e=.returned (.bool false)∧Jx (pre++[x]) W'))
  (hBs:W.cell? ⟨Bs,0,none⟩=some v) (h0:J [] W) :
  CallsIn Fence.wide n Tryz.prog 217 #[.func (.yield lp) #[] #[],.pointer (some ⟨Bs,0,none⟩)] W fun e W'=>(∃ v,e=.returned v) ∧
   ((∃ ys,ys=tk zs∧J ys W')∨(∃ pre,pre <+: tk zs∧Jx pre W')):=by
 obtain⟨al,cap,rfl,hcap,hmx,hc⟩:=hv
 have HC:=lH hc
 have HM:=lH hm
 have HJ:=lH hJ
 have HY:=lH hY
 have hml:zs.length≤9223372036854775807:=by unfold maxLen at hmx;omega
 clear hc hm hJ hY
 refine callsIn_of_wp Tryz.func217 rfl trivial ?_ rfl
 simp only[Tryz.ntmps217,List.size_toArray,List.length_cons,List.length_nil,Nat.reduceAdd,Nat.reduceSub,Array.replicate_succ,Array.replicate_zero,List.push_toArray,List.append_toArray,List.nil_append,List.cons_append]
 gi_wp2
 gi_loopw [7] (fun i wr=>∃ k:Nat,k≤zs.length∧i=.int .i64 k∧Hid (J (tk (zs.take k)) wr)∧Below w₀.heap.size w₀ wr) (fun i _=>zs.length - (intOf i).toNat)
 case atStart=>exact⟨0,Nat.zero_le _,rfl,lH h0,hW⟩
 case round =>
  obtain⟨k,hk,rfl,HJs,hnx⟩:=hrel
  by_cases hlt:k<zs.length
  ·obtain⟨e,he⟩:∃ t,zs[k]?=some t:=⟨_,List.getElem?_eq_getElem hlt⟩
   obtain⟨g,off,rfl,hg,l0,l1,l2,l3⟩:=HC.out k e he
   have hme:=HM.out e (List.mem_of_getElem? he)
   have HK:=lH (fun W=>xfn e W hme)
   have hi2:(k:Int)<(zs.length:Int):=by omega
   have c0:=(hnx.cell (p:=⟨g,off+k*4,none⟩) hg).trans l0
   have c1:=(hnx.cell (p:=⟨g,off+k*4+1,none⟩) hg).trans l1
   have c2:=(hnx.cell (p:=⟨g,off+k*4+2,none⟩) hg).trans l2
   have c3:=(hnx.cell (p:=⟨g,off+k*4+3,none⟩) hg).trans l3
   have HX:=lH (EAt.made wr e 147)
   have HBX:=lH ((Below.refl wr.heap.size wr).alloc (Nat.le_refl _) (.cells (eC e) 147))
   have HN:=lH hnx
   clear l0 l1 l2 l3 hnx
   unfold eC at HK HX HBX
   by_cases hck:ckN e=0
   ·rw[hck] at HK
    have HT:=lH (xCw zs k e he ⟨hme,hck⟩)
    have HE:=lH (And.intro he (And.intro hme hck))
    clear he hme hck
    gi_wp2
    refine⟨trivial,(callsIn_wide.2 (HK.out _)).mono ?_⟩
    rintro x w1 ⟨rfl,hb⟩
    obtain⟨k0,k1,k2,k3⟩:=EAt.later HX.out hb
    have hb1:=HBX.out.trans (hb.mono HBX.out.size)
    have HN1:=lH (HN.out.trans (hb1.mono HN.out.size))
    have hJ1:=xxe HJ.out HJs.out hb1
    obtain⟨fn,tmps,assign,body,hy,hR⟩:=HY.out _ ⟨e,HE.out.2⟩ w1 hJ1 HT.out
    dsimp only[eC] at hy
    have HR:=lH hR
    have HK1:=lH (xw7 (zs.take k) e HE.out.2)
    have HP1:=lH (xxk zs (k+1))
    rw[xdE zs k e HE.out.1] at HP1
    have HT1:=lH (xdE zs k e HE.out.1)
    clear hb hb1 hJ1 hR HX HBX HN HJs HT c0 c1 c2 c3
    gi_wp2
    refine HR.out.mono ?_
    rintro x W3 (⟨rfl,hJ3,hk3⟩|⟨rfl,hJx3⟩)
    ·have HJ3:=lH hJ3
     have HN3:=lH (HN1.out.trans hk3)
     clear hJ3 hk3
     gi_wp2
     go_roundw
     case rel=>exact⟨k+1,by omega,by go_num,lH (by rw[HT1.out,HK1.out];exact HJ3.out),HN3.out⟩
     case measure=>simp[intOf];omega
    ·have HJ3:=lH hJx3
     clear hJx3
     gi_wp2
     refine bodyPost_ret (results_none rfl _ _ _) rfl ?_
     exact⟨⟨_,rfl⟩,.inr ⟨_,by rw[← HK1.out];exact HP1.out,HJ3.out⟩⟩
   ·obtain⟨r,hr⟩:∃ r,ckN e=r:=⟨_,rfl⟩
    have HK1:=lH (xCH (zs.take k) e hck)
    have HT1:=lH (xdE zs k e he)
    rw[hr] at HK hck
    have hne:(r == 0)=false:=by simpa using hck
    clear he hme hck hr
    gi_wp2
    refine⟨trivial,(callsIn_wide.2 (HK.out _)).mono ?_⟩
    rintro x w1 ⟨rfl,hb⟩
    have hb1:=HBX.out.trans (hb.mono HBX.out.size)
    have HN1:=lH (HN.out.trans (hb1.mono HN.out.size))
    have HJ1:=lH (xxe HJ.out HJs.out hb1)
    clear hb hb1 HX HBX HN HJs c0 c1 c2 c3
    gi_wp2
    refine⟨fun _ h=>(by cases h),?_⟩
    gi_wp2
    go_roundw
    case rel=>exact⟨k+1,by omega,by go_num,lH (by rw[HT1.out,HK1.out];exact HJ1.out),HN1.out⟩
    case measure=>simp[intOf];omega
  ·obtain rfl:k=zs.length:=by omega
   have hJ0:=HJs.out
   rw[List.take_length] at hJ0
   have HJ0:=lH hJ0
   clear hJ0 HJs
   gi_wp2
   go_end0
   exact⟨⟨_,rfl⟩,.inl ⟨_,rfl,HJ0.out⟩⟩
theorem xdC (n:Nat) (hn:1≤n) (Bs:Nat) (w₀ w:World) (v:Value) (zs:List En) (hm:xaT zs) (hv:xam w₀ v zs) (hw:Below w₀.heap.size w₀ w) (hBs:w.cell? ⟨Bs,0,none⟩=some v) :
  SeqStopsK Fence.wide n Tryz.prog 217 #[.pointer (some ⟨Bs,0,none⟩)] (fun x:Ok=>#[.agg (eC x.1)]) (Below w₀.heap.size) (fun ys=>ys=tk zs) (fun pre=>pre <+: tk zs) (tk zs).length w:=fun l J Jx W hW hJ _ hY h0 =>
 xpU n hn l Bs w₀ v zs hm hv J Jx W (hw.trans (hW.mono hw.size)) hJ hY ((hW.cell (p:=⟨Bs,0,none⟩) (xbS hBs)).trans hBs) h0
end Go.Proofs.YtjkgkmmkehnggaaGreatDoor
