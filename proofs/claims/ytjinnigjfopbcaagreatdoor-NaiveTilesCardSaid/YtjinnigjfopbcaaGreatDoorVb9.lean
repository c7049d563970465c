/- bNd bNe bQd. -/
import Derived.Test.YtjinnigjfopbcaaGreatDoorVs
import Derived.Test.YtjinnigjfopbcaaGreatDoorVb8
set_option maxHeartbeats 16000000
namespace Go.Proofs.YtjinnigjfopbcaaGreatDoor
set_option linter.unusedVariables false
set_option linter.unusedSimpArgs false
open Go.RowKit
set_option maxRecDepth 20000
def xeT (e:En) (d:ByteArray):List En × Int:=if 0<e.rn then ([e],0) else xbk e d
theorem xr2 (e:En) (d:ByteArray) (w:World) (hm:xaY e) (hc:e.off+e.ln≤9223372036854775807) (hd:d.size≤1000000000) :
  Calls Tryz.prog 123 #[.agg (eC e),.string d] w (xcV (xeT e d) w):=by
 unfold xcV
 have HEB:=lH (EAt.made w e 74)
 have HB0:Hid (Below w.heap.size w (w.alloc (.cells (eC e) 74))):=lH ((Below.refl _ _).alloc (Nat.le_refl _) _)
 have HPT:=lH (fun X=>xlO e X)
 have hm':=hm
 unfold xaY at hm
 have hw3:IntKind.u64.wrap e.ln=e.ln:=by rw[IntKind.wrap_u64];omega
 have hw4:IntKind.u64.wrap (e.off+e.ln)=e.off+e.ln:=by rw[IntKind.wrap_u64];omega
 have hw5:IntKind.u64.wrap (d.size:Int)=(d.size:Int):=by rw[IntKind.wrap_u64];omega
 by_cases h0:0<e.rn
 ·have he:xeT e d=([e],0):=by unfold xeT;rw[if_pos h0]
  rw[he,decide_eq_false (by omega)] at *
  dsimp only
  have HL1:=lH (fun X=>xiF X e 74)
  clear h0 he
  unfold eC at HB0 HEB HPT HL1 ⊢
  go_enter Tryz.func123,Tryz.ntmps123
  go_wp2_with fail
  refine(HPT.out _).mono ?_
  rintro x w1 ⟨rfl,hb1⟩
  have HB1:=lH (HB0.out.trans (hb1.mono HB0.out.size))
  obtain⟨k0,k1,k2,k3⟩:=HEB.out.later hb1
  clear hb1
  go_wp2_with fail
  refine bodyPost_ret (results_tmp2 rfl _ _ _) rfl ⟨_,rfl,HL1.out _,HB1.out.alloc HB1.out.size _⟩
 have he:xeT e d=xbk e d:=by unfold xeT;rw[if_neg h0]
 rw[he]
 rw[decide_eq_true (show e.rn=0 by omega)] at HPT
 clear h0 he
 by_cases h1:(d.size:Int)<e.off+e.ln
 ·rw[xdS h1]
  dsimp only
  unfold eC at HB0 HEB HPT ⊢
  go_enter Tryz.func123,Tryz.ntmps123
  go_wp2_with fail
  refine(HPT.out _).mono ?_
  rintro x wp ⟨rfl,hbp⟩
  have HB1:=lH (HB0.out.trans (hbp.mono HB0.out.size))
  have hep:=HEB.out.later hbp
  have HEP:=lH hep
  obtain⟨k0,k1,k2,k3⟩:=hep
  clear hbp
  go_wp2_with fail
  refine bodyPost_ret (results_tmp2 rfl _ _ _) rfl ⟨_,rfl,xaL _,HB1.out⟩
 have hs1:(0:Int)≤e.off:=by omega
 have hs2:e.off≤e.off+e.ln:=by omega
 have hs3:e.off+e.ln≤(d.size:Int):=by omega
 have HDC:=lH (fun X=>xiP (d.extract e.off.toNat (e.off+e.ln).toNat) X (by rw[ByteArray.size_extract];unfold maxLen;omega))
 obtain⟨D,hD⟩:∃ D,xbF (d.extract e.off.toNat (e.off+e.ln).toNat).data.toList=D:=⟨_,rfl⟩
 rw[hD] at HDC
 have hback:=xcg (d.extract e.off.toNat (e.off+e.ln).toNat).data.toList
 rw[hD] at hback
 unfold xeo at HDC
 obtain⟨m,at_,z⟩:=D
 dsimp only at HDC hback
 unfold eC at HB0 HEB HPT ⊢
 by_cases h2:z=0
 ·subst h2
  obtain⟨b1,b2,_⟩:=hback rfl
  have hml:=xfm b1
  have HLV:=lH (fun v X (hX:xaj X v m)=>xqH v m X hX (by omega))
  by_cases h3:xat m=[]
  ·rw[decide_eq_false (by simpa using h3)] at HLV
   by_cases h4:m=[]
   ·rw[xcb h1 hD rfl h3 (.inl h4)]
    subst h4
    dsimp only
    clear b1 b2 hback hD h1 h3
    go_enter Tryz.func123,Tryz.ntmps123
    go_wp2_with fail
    refine(HPT.out _).mono ?_
    rintro x wp ⟨rfl,hbp⟩
    have HB1:=lH (HB0.out.trans (hbp.mono HB0.out.size))
    have hep:=HEB.out.later hbp
    have HEP:=lH hep
    obtain⟨k0,k1,k2,k3⟩:=hep
    clear hbp
    go_wp2_with fail
    refine(HDC.out _).mono ?_
    rintro x w1 ⟨v1,rfl,ho1,hb1⟩
    have HO1:=lH ho1.ensAt
    have HBP:=HB1
    clear HB1
    have HB1:=lH (HBP.out.trans (hb1.mono HBP.out.size))
    have he1:=HEP.out.later hb1
    obtain⟨a1,c1,rfl⟩:=xae ho1.ensAt
    clear ho1 hb1 k0 k1 k2 k3
    rw[List.length_nil] at HO1
    rw[List.length_nil]
    go_wp2_with fail
    refine(HLV.out _ _ HO1.out).mono ?_
    rintro x w2 ⟨rfl,hb2⟩
    have HO2:=lH (HO1.out.below hb2)
    have HB2:=lH (HB1.out.trans (hb2.mono HB1.out.size))
    have he2:=he1.later hb2
    obtain⟨k0,k1,k2,k3⟩:=he2
    clear hb2 he1
    go_wp2_with fail
    go_quiet (fail)
    go_wp2_with fail
    refine bodyPost_ret (results_tmp2 rfl _ _ _) rfl ⟨_,rfl,xaL _,Below.drewNs HB2.out _⟩
   ·have hmp:0<m.length:=List.length_pos_iff.2 h4
    have hmp1:((m.length:Int) == 0)=false:=by rw[beq_eq_false_iff_ne];omega
    have hmp2:(0:Int)<(m.length:Int):=by omega
    by_cases h5:(gS m 0).id=e.id
    ·rw[xe3 h1 hD rfl h3 (by intro h;rcases h with h|h;exact h4 h;exact h h5)]
     dsimp only
     have hne:((gS m 0).id != e.id)=false:=by simpa using h5
     have HGS:=lH (xlR m 0 hmp)
     clear b1 b2 hback hD h1 h3 h4
     go_enter Tryz.func123,Tryz.ntmps123
     go_wp2_with fail
     refine(HPT.out _).mono ?_
     rintro x wp ⟨rfl,hbp⟩
     have HB1:=lH (HB0.out.trans (hbp.mono HB0.out.size))
     have hep:=HEB.out.later hbp
     have HEP:=lH hep
     obtain⟨k0,k1,k2,k3⟩:=hep
     clear hbp
     go_wp2_with fail
     refine(HDC.out _).mono ?_
     rintro x w1 ⟨v1,rfl,ho1,hb1⟩
     have HO1:=lH ho1.ensAt
     have HBP:=HB1
     clear HB1
     have HB1:=lH (HBP.out.trans (hb1.mono HBP.out.size))
     have he1:=HEP.out.later hb1
     obtain⟨a1,c1,rfl⟩:=xae ho1.ensAt
     clear ho1 hb1 k0 k1 k2 k3
     go_wp2_with fail
     refine(HLV.out _ _ HO1.out).mono ?_
     rintro x w2 ⟨rfl,hb2⟩
     have HO2:=lH (HO1.out.below hb2)
     have HB2:=lH (HB1.out.trans (hb2.mono HB1.out.size))
     have he2:=he1.later hb2
     obtain⟨k0,k1,k2,k3⟩:=he2
     obtain⟨gm,om,cm,hve,hcm,hgm,hcc⟩:=xdA HO2.out 0 hmp
     cases hve
     obtain⟨x0,_,_,_⟩:=hcc 0 _ HGS.out
     simp only[Nat.zero_mul,Nat.add_zero] at x0
     clear hb2 he1 hcc h5
     go_wp2_with fail
     go_quiet (fail)
     go_wp2_with fail
     refine bodyPost_ret (results_tmp2 rfl _ _ _) rfl ⟨_,rfl,HO2.out.drewNs _,Below.drewNs HB2.out _⟩
    ·rw[xcb h1 hD rfl h3 (.inr h5)]
     dsimp only
     have hne:((gS m 0).id != e.id)=true:=by simpa using h5
     have HGS:=lH (xlR m 0 hmp)
     clear b1 b2 hback hD h1 h3 h4
     go_enter Tryz.func123,Tryz.ntmps123
     go_wp2_with fail
     refine(HPT.out _).mono ?_
     rintro x wp ⟨rfl,hbp⟩
     have HB1:=lH (HB0.out.trans (hbp.mono HB0.out.size))
     have hep:=HEB.out.later hbp
     have HEP:=lH hep
     obtain⟨k0,k1,k2,k3⟩:=hep
     clear hbp
     go_wp2_with fail
     refine(HDC.out _).mono ?_
     rintro x w1 ⟨v1,rfl,ho1,hb1⟩
     have HO1:=lH ho1.ensAt
     have HBP:=HB1
     clear HB1
     have HB1:=lH (HBP.out.trans (hb1.mono HBP.out.size))
     have he1:=HEP.out.later hb1
     obtain⟨a1,c1,rfl⟩:=xae ho1.ensAt
     clear ho1 hb1 k0 k1 k2 k3
     go_wp2_with fail
     refine(HLV.out _ _ HO1.out).mono ?_
     rintro x w2 ⟨rfl,hb2⟩
     have HO2:=lH (HO1.out.below hb2)
     have HB2:=lH (HB1.out.trans (hb2.mono HB1.out.size))
     have he2:=he1.later hb2
     obtain⟨k0,k1,k2,k3⟩:=he2
     obtain⟨gm,om,cm,hve,hcm,hgm,hcc⟩:=xdA HO2.out 0 hmp
     cases hve
     obtain⟨x0,_,_,_⟩:=hcc 0 _ HGS.out
     simp only[Nat.zero_mul,Nat.add_zero] at x0
     clear hb2 he1 hcc h5
     go_wp2_with fail
     go_quiet (fail)
     go_wp2_with fail
     refine bodyPost_ret (results_tmp2 rfl _ _ _) rfl ⟨_,rfl,xaL _,Below.drewNs HB2.out _⟩
  ·rw[xeG h1 hD rfl h3]
   dsimp only
   rw[decide_eq_true (by simpa using h3)] at HLV
   clear b1 b2 hback hD h1 h3
   go_enter Tryz.func123,Tryz.ntmps123
   go_wp2_with fail
   refine(HPT.out _).mono ?_
   rintro x wp ⟨rfl,hbp⟩
   have HB1:=lH (HB0.out.trans (hbp.mono HB0.out.size))
   have hep:=HEB.out.later hbp
   have HEP:=lH hep
   obtain⟨k0,k1,k2,k3⟩:=hep
   clear hbp
   go_wp2_with fail
   refine(HDC.out _).mono ?_
   rintro x w1 ⟨v1,rfl,ho1,hb1⟩
   have HO1:=lH ho1.ensAt
   have HBP:=HB1
   clear HB1
   have HB1:=lH (HBP.out.trans (hb1.mono HBP.out.size))
   have he1:=HEP.out.later hb1
   obtain⟨a1,c1,rfl⟩:=xae ho1.ensAt
   clear ho1 hb1 k0 k1 k2 k3
   go_wp2_with fail
   refine(HLV.out _ _ HO1.out).mono ?_
   rintro x w2 ⟨rfl,hb2⟩
   have HO2:=lH (HO1.out.below hb2)
   have HB2:=lH (HB1.out.trans (hb2.mono HB1.out.size))
   have he2:=he1.later hb2
   clear hb2 he1
   go_wp2_with fail
   refine bodyPost_ret (results_tmp2 rfl _ _ _) rfl ⟨_,rfl,xaL _,HB2.out⟩
 ·rw[xgc h1 hD h2]
  dsimp only
  have hz:(z != 0)=true:=by simpa using h2
  clear hback hD h1 h2
  go_enter Tryz.func123,Tryz.ntmps123
  go_wp2_with fail
  refine(HPT.out _).mono ?_
  rintro x wp ⟨rfl,hbp⟩
  have HB1:=lH (HB0.out.trans (hbp.mono HB0.out.size))
  have hep:=HEB.out.later hbp
  have HEP:=lH hep
  obtain⟨k0,k1,k2,k3⟩:=hep
  clear hbp
  go_wp2_with fail
  refine(HDC.out _).mono ?_
  rintro x w1 ⟨v1,rfl,ho1,hb1⟩
  have HO1:=lH ho1.ensAt
  have HBP:=HB1
  clear HB1
  have HB1:=lH (HBP.out.trans (hb1.mono HBP.out.size))
  have he1:=HEP.out.later hb1
  obtain⟨a1,c1,rfl⟩:=xae ho1.ensAt
  clear ho1 hb1 k0 k1 k2 k3
  clear he1
  go_wp2_with fail
  refine bodyPost_ret (results_tmp2 rfl _ _ _) rfl ⟨_,rfl,xaL _,HB1.out⟩
theorem xwd:(Tryz.prog.info? 74).map (fun i=>(i.zero,i.size,i.bytes))=some (some (.agg #[.int .u64 0,.int .u64 0,.int .u32 0,.int .u32 0]),4,24):=by kernel_rfl
theorem xtL (l:List En) (k:Nat) (e:En) (d:ByteArray) (out:List En) (h:l[k]?=some e):goJ (l.drop k) d out=if (xeT e d).2≠0 then ([],(xeT e d).2) else goJ (l.drop (k+1)) d (out++(xeT e d).1):=by
 rw[xhX l k e d out h]
 unfold xeT
 by_cases hr:0<e.rn
 ·rw[if_pos hr,if_pos hr,if_neg (by simp)]
 ·rw[if_neg hr,if_neg hr]
theorem xtg (e:En) (d:ByteArray) (hm:xaY e):(xeT e d).1.length≤4096∧xas (xeT e d).1:=by
 unfold xeT
 split
 ·exact⟨by simp,fun x hx=>by rw[List.mem_singleton] at hx;rw[hx];exact hm⟩
 ·exact xf8 e d
def xkW (out L:List En):Prop:=out=L∨(4096<out.length∧4096<L.length)
theorem xtx {out L:List En} (h:xkW out L):xa5 out=xa5 L:=by
 rcases h with rfl|⟨h1,h2⟩
 ·rfl
 ·unfold xa5;rw[if_pos h1,if_pos h2]
theorem xwo {out L:List En} (h:xkW out L) (h0:xa5 L=0):out=L:=by
 rcases h with rfl|⟨h1,h2⟩
 ·rfl
 ·unfold xa5 at h0;rw[if_pos h2] at h0;cases h0
theorem xtr {out L m:List En} (h:xkW out L) (hl:out.length≤4096):xkW (out++m) (L++m):=by
 rcases h with rfl|⟨h1,h2⟩
 ·exact .inl rfl
 ·omega
theorem xnt {out L m:List En} (h:xkW out L) (hl:¬ out.length≤4096):xkW out (L++m):=by
 right
 rcases h with rfl|⟨h1,h2⟩
 ·exact⟨by omega,by rw[List.length_append];omega⟩
 ·exact⟨h1,by rw[List.length_append];omega⟩
theorem xmQ (v:Value) (root:List En) (d:ByteArray) (w:World) (hv:xaj w v root) (hm:xas root) (hl:root.length≤4096) (hd:d.size≤1000000) :
  Calls Tryz.prog 54 #[v,.string d] w (xcV (xcB root d) w):=by
 unfold xcV
 have HRO:=lH (xcR v root w hv hm)
 by_cases h1:xa5 root=0
 ·obtain⟨J,hJ⟩:∃ J,xcB root d=J:=⟨_,rfl⟩
  rw[hJ]
  rw[xlG h1] at hJ
  rw[h1] at HRO
  have HCK:Hid (∀ e ∈ root,ckN e=0):=lH (fun e he=>by
   have:=(xvB h1).1
   exact(xb7 _ root hm this e he).2)
  have HV:=lH hv
  have HM:=lH hm
  obtain⟨av,cv,rfl⟩:=xae hv
  obtain⟨R,hR⟩:∃ R,goJ root d []=R:=⟨_,rfl⟩
  rw[hR] at hJ
  have HJ:=lH hJ.symm
  have HR0:Hid (R=goJ (root.drop 0) d []):=lH (by rw[List.drop_zero,hR])
  clear hv hm h1 hR hJ
  go_enter Tryz.func54,Tryz.ntmps54
  go_wp2_with fail
  refine HRO.out.mono ?_
  rintro x w1 ⟨rfl,hb1⟩
  have HB1:=lH hb1
  clear hb1
  go_wp2_with fail
  go_loopw [7,20] (fun vo i wr=>∃ (k:Nat) (out L:List En),k≤root.length∧i=.int .i64 k∧out.length≤8192∧Hid (xaQ wr w.heap.size 74 vo out)∧Hid (xas out)∧Hid (xkW out L)∧Hid (R=goJ (root.drop k) d L)∧Hid (Below w.heap.size w wr)) (fun _ i _=>root.length - (intOf i).toNat)
  case atStart=>exact⟨0,[],[],Nat.zero_le _,rfl,by simp,lH (xaU _ _ _),lH (fun e h=>by simp at h),lH (.inl rfl),HR0,HB1⟩
  case round =>
   obtain⟨k,out,L,hk,rfl,hol,HO,HMO,HSL,HG,HBW⟩:=hrel
   by_cases hlt:k<root.length
   ·obtain⟨e,he⟩:∃ e,root[k]?=some e:=⟨_,List.getElem?_eq_getElem hlt⟩
    have hme:=HM.out e (List.mem_of_getElem? he)
    have hck:=xhO e (HCK.out e (List.mem_of_getElem? he))
    obtain⟨g,off,cap,hv2,hle,hg,hc⟩:=xdA HV.out k hlt
    cases hv2
    obtain⟨k0,k1,k2,k3⟩:=xbP HBW.out (hc k e he)
    have HG2:=HG.out
    rw[xtL root k e d L he] at HG2
    have hki:(k:Int)<(root.length:Int):=by omega
    have hme2:=hme
    unfold xaY at hme2
    have HP:=lH (fun X=>xr2 e d X hme (by omega) (by omega))
    have HPL:=lH (xtg e d hme)
    have HBX:Hid (Below wr.heap.size wr (wr.alloc (.cells (eC e) 74))):=lH ((Below.refl _ _).alloc (Nat.le_refl _) _)
    unfold xcV at HP
    generalize xeT e d=P at *
    obtain⟨m,z⟩:=P
    dsimp only at HP HG2 HPL
    unfold eC at HP HBX
    obtain⟨av9,cv9,rfl⟩:=xae HO.out.ensAt
    by_cases hz:z=0
    ·rw[if_neg (by simpa using hz)] at HG2
     subst hz
     have HG3:=lH HG2
     clear HG2 HG hc he hme hck hme2 HR0
     go_wp2_with fail
     refine(HP.out _).mono ?_
     rintro x w2 ⟨v2,rfl,he2,hb2⟩
     have hb12:=HBX.out.trans (hb2.mono HBX.out.size)
     have hB2:=HBW.out.trans (hb12.mono HBW.out.size)
     obtain⟨a2,c2,rfl⟩:=xae he2
     by_cases hcut:out.length≤4096
     ·obtain⟨v5,w5,hr5,ho5,hg5⟩:=xdg w2 w.heap.size 27 74 27 _ Tryz.underlying27 xwd rfl (.slice av9 out.length cv9) (.slice a2 m.length c2) out m (HO.out.below hb12) he2 (by have:=HPL.out.1;omega) hB2.size
      have HO5:=lH ho5
      have HM5:=lH (xdL HMO.out HPL.out.2)
      have HS5:=lH (xtr (m:=m) HSL.out hcut)
      have HB5:=lH (hB2.grown hg5 hB2.size (fun j hj=>(HO.out.lt j hj).1))
      have hlen:(out++m).length≤8192:=by have:=HPL.out.1;rw[List.length_append];omega
      have hcz:(out.length:Int)≤4096:=by omega
      clear ho5 hg5 he2 hb2 hB2 HP hb12
      go_wp2_with (first|(at_builtin;refine Lib.wpList_append_run _ rfl _ _ _ _ rfl _ _ rfl rfl _ _ hr5 ?_)|fail)
      go_roundw
      case rel=>exact⟨k+1,_,_,by omega,by go_num,hlen,HO5,HM5,HS5,HG3,HB5⟩
      case measure=>simp[intOf];omega
     ·have hcz:¬ (out.length:Int)≤4096:=by omega
      have HO5:=lH (HO.out.below hb12)
      have HS5:=lH (xnt (m:=m) HSL.out hcut)
      have HB5:=lH hB2
      clear he2 hb2 hB2 HP hb12
      go_wp2_with fail
      go_roundw
      case rel=>exact⟨k+1,_,_,by omega,by go_num,hol,HO5,HMO,HS5,HG3,HB5⟩
      case measure=>simp[intOf];omega
    ·rw[if_pos hz] at HG2
     have hzn:(z != 0)=true:=by simpa using hz
     have HRR:Hid (J=([],z)):=lH (by rw[HJ.out,HG2];dsimp only;rw[if_pos hz])
     clear HG2 HG hc he hme hck hme2 HR0 hz
     go_wp2_with fail
     refine(HP.out _).mono ?_
     rintro x w2 ⟨v2,rfl,he2,hb2⟩
     have hb12:=HBX.out.trans (hb2.mono HBX.out.size)
     have HB2:=lH (HBW.out.trans (hb12.mono HBW.out.size))
     obtain⟨a2,c2,rfl⟩:=xae he2
     clear he2 hb2 HP hb12
     go_wp2_with fail
     refine bodyPost_ret (results_tmp2 rfl _ _ _) rfl ⟨_,by rw[HRR.out];rfl,by rw[HRR.out];exact xaL _,HB2.out⟩
   ·obtain rfl:k=root.length:=by omega
    have HG2:=HG.out
    rw[List.drop_length,goJ] at HG2
    have HJ2:=HJ.out
    rw[HG2] at HJ2
    dsimp only at HJ2
    rw[if_neg (by simp)] at HJ2
    have HRW:=lH (xcR u7 out wr HO.out.ensAt HMO.out)
    have HE:=lH HO.out.ensAt
    obtain⟨a7,c7,rfl⟩:=xae HO.out.ensAt
    rw[xtx HSL.out] at HRW
    by_cases hq:xa5 L=0
    ·rw[if_neg (by simpa using hq)] at HJ2
     rw[hq] at HRW
     have hol2:=xwo HSL.out hq
     subst hol2
     have HJ3:=lH HJ2
     clear hq HR0 HG HG2 HJ2
     go_wp2_with fail
     refine HRW.out.mono ?_
     rintro x w2 ⟨rfl,hb2⟩
     have HE2:=lH (HE.out.below hb2)
     have HB2:=lH (HBW.out.trans (hb2.mono HBW.out.size))
     clear hb2
     go_wp2_with fail
     refine bodyPost_ret (results_tmp2 rfl _ _ _) rfl ⟨_,by rw[HJ3.out];rfl,by rw[HJ3.out];exact HE2.out,HB2.out⟩
    ·rw[if_pos hq] at HJ2
     have hqn:(xa5 L != 0)=true:=by simpa using hq
     have HJ3:=lH HJ2
     generalize xa5 L=q at *
     clear hq HR0 HG HG2 HJ2
     go_wp2_with fail
     refine HRW.out.mono ?_
     rintro x w2 ⟨rfl,hb2⟩
     have HB2:=lH (HBW.out.trans (hb2.mono HBW.out.size))
     clear hb2
     go_wp2_with fail
     refine bodyPost_ret (results_tmp2 rfl _ _ _) rfl ⟨_,by rw[HJ3.out];rfl,by rw[HJ3.out];exact xaL _,HB2.out⟩
 ·have hj:xcB root d=([],xa5 root):=by unfold xcB;rw[if_pos h1]
  rw[hj]
  dsimp only
  have hq:(xa5 root != 0)=true:=by simpa using h1
  generalize xa5 root=q at *
  obtain⟨av,cv,rfl⟩:=xae hv
  clear h1 hj hv
  go_enter Tryz.func54,Tryz.ntmps54
  go_wp2_with fail
  refine HRO.out.mono ?_
  rintro x w1 ⟨rfl,hb1⟩
  have HB1:=lH hb1
  clear hb1
  go_wp2_with fail
  refine bodyPost_ret (results_tmp2 rfl _ _ _) rfl ⟨_,rfl,xaL _,HB1.out⟩
end Go.Proofs.YtjinnigjfopbcaaGreatDoor
namespace Go.Proofs.YtjinnigjfopbcaaGreatDoor
set_option linter.unusedVariables false
set_option linter.unusedSimpArgs false
open Go.RowKit
def xhi (l:List En) (w:World) (x:Ending) (w':World):Prop:=∃ v',x=.returned v'∧xaj w' v' l∧(∀ a n c,v'=.slice (some a) n c→w.heap.size≤a.block∧a.block<w'.heap.size)∧Below w.heap.size w w'
theorem xsj {W:World} {ad:Addr} {cap:Nat} {l:List En} (h:xaj W (.slice (some ad) l.length cap) l):∀ j u,(xaw l)[j]?=some u→W.cell? (ad.add j)=some u:=by
 obtain⟨a,cap',he,h1,h2,hc⟩:=h
 cases he
 intro j u hu
 have hj:j<l.length*4:=by rw[← xbU];exact(List.getElem?_eq_some_iff.1 hu).1
 obtain⟨t,ht⟩:∃ t,l[j / 4]?=some t:=⟨_,List.getElem?_eq_getElem (by omega)⟩
 obtain⟨g,off,ha,_,c0,c1,c2,c3⟩:=hc (j / 4) t ht
 obtain⟨f0,f1,f2,f3⟩:=xbp l (j / 4) t ht
 injection ha with ha
 subst ha
 have hadd:(⟨g,off,none⟩:Addr).add j=⟨g,off+j,none⟩:=by simp[Addr.add]
 rw[hadd]
 rcases(by omega:j=j / 4*4∨j=j / 4*4+1∨j=j / 4*4+2∨j=j / 4*4+3) with e|e|e|e
 ·rw[e,f0] at hu;rw[← hu];rw[show off+j=off+j / 4*4 from by omega];exact c0
 ·rw[e,f1] at hu;rw[← hu];rw[show off+j=off+j / 4*4+1 from by omega];exact c1
 ·rw[e,f2] at hu;rw[← hu];rw[show off+j=off+j / 4*4+2 from by omega];exact c2
 ·rw[e,f3] at hu;rw[← hu];rw[show off+j=off+j / 4*4+3 from by omega];exact c3
theorem xfL (ad:Addr) (n c:Nat) (w:World):(Op.equal 27 (.slice (some ad) n c) (.slice none 0 0)).run Tryz.prog w=.ok false w:=by
 rw[Op.equal,show Op.maxDepth=9999+1 from rfl]
 unfold Op.equalIn
 simp[go_sem]
theorem xfe (ad:Addr) (n c:Nat) (w:World):(binOp BinOp.eql 27 (.slice (some ad) n c) (.slice none 0 0)).run Tryz.prog w=.ok (.bool false) w:=by
 simp[binOp,go_sem,xfL]
theorem xfG (c:Nat) (w:World):(Op.equal 27 (.slice none 0 c) (.slice none 0 0)).run Tryz.prog w=.ok true w:=by
 rw[Op.equal,show Op.maxDepth=9999+1 from rfl]
 unfold Op.equalIn
 simp[go_sem]
theorem xfi (c:Nat) (w:World):(binOp BinOp.eql 27 (.slice none 0 c) (.slice none 0 0)).run Tryz.prog w=.ok (.bool true) w:=by
 simp[binOp,go_sem,xfG]
set_option maxRecDepth 20000 in
theorem xnM (v:Value) (l:List En) (w:World) (hv:xaj w v l) (hl:l.length≤4096):Calls Tryz.prog 136 #[v] w (xhi l w):=by
 obtain⟨i0,hi,hz0,hz1,hz2⟩:=xaq xvb
 have HI0:=lH hi
 have HZ0:=lH hz0
 have HZ1:=lH hz1
 have HZ2:=lH hz2
 clear hi hz0 hz1 hz2
 have hv':=hv
 obtain⟨a,cap,rfl,h1,h2,hc⟩:=hv'
 cases a with
 | none =>
  have hl0:l=[]:=by
   cases l with
   | nil=>rfl
   | cons t l=>obtain⟨g,off,ha,_⟩:=hc 0 t rfl;cases ha
  subst hl0
  clear hc hv
  have hneq:=fun W=>xfi cap W
  go_enter Tryz.func136,Tryz.ntmps136
  go_wp2_with fail
  go_ret
  exact⟨_,rfl,xaL _,fun a n c h=>(by cases h),Below.refl _ _⟩
 | some ad =>
  have HV:=lH hv
  have hneq:=fun W=>xfe ad l.length cap W
  clear hc hv
  go_enter Tryz.func136,Tryz.ntmps136
  have HO:Hid ((w.alloc (.cells #[] 74)).ownsRow w.heap.size 74 4 (.slice (some ⟨w.heap.size,0,none⟩) 0 0) 0 (xaw [])):=lH ⟨rfl,.inr ⟨w.heap.size,0,#[],rfl,Nat.le_refl _,heap_alloc_new w _,Nat.le_refl _,Nat.zero_le _,rfl,rfl⟩⟩
  have HNW:=lH (xsj (HV.out.below ((Below.refl w.heap.size w).alloc (Nat.le_refl _) (.cells #[] 74))))
  go_wp2_with (first|(at_builtin;refine wpList_append_own _ rfl _ _ 27 rfl w.heap.size 74 i0 (.agg #[.int .u64 0,.int .u64 0,.int .u32 0,.int .u32 0]) 4 24 Tryz.underlying27 HI0.out HZ0.out HZ1.out HZ2.out rfl (by decide) _ _ _ rfl HO.out ad l.length cap (xaw l) rfl (xbU l) HNW.out (xdM l) ?c4 ?c5 ?c6 ?_)|fail)
  case c4=>unfold maxLen;omega
  case c5=>omega
  case c6=>simp
  intro v' w5 hown' hgr _
  have hO:xaQ w5 w.heap.size 74 v' l:=xaJ hown' (by omega) (by simp[xaw])
  have hb5:Below w.heap.size w w5:=((Below.refl w.heap.size w).alloc (Nat.le_refl _) _).grown hgr (by simp) (fun g hg=>(World.ownsRow.lt HO.out g hg).1)
  have HO5:=lH hO
  have HB5:=lH hb5
  clear hown' hgr hO hb5
  go_wp2_with fail
  go_ret
  exact⟨_,rfl,HO5.out.ensAt,fun a n c h=>(HO5.out.lt a.block (by have h':v'=.slice (some a) n c:=h;rw[h'];rfl)),HB5.out⟩
end Go.Proofs.YtjinnigjfopbcaaGreatDoor
