/- cPf cYk cYh. -/
import Derived.Test.YtjinnigjfopbcaaGreatDoorJc4
import Derived.Test.YtjinnigjfopbcaaGreatDoorJs
set_option maxHeartbeats 16000000
namespace Go.Proofs.YtjinnigjfopbcaaGreatDoor
set_option linter.unusedVariables false
set_option linter.unusedSimpArgs false
open Go.RowKit
set_option maxRecDepth 100000
theorem xnl (t:ByteArray) (w:World) (ht:t.size≤1000000):Calls Tryz.prog 52 #[.string t] w (xop (xaV t) w):=by
 unfold xop
 obtain⟨C,hC⟩:∃ C,xaV t=C:=⟨_,rfl⟩
 have hbad:=fun h=>xtW (t:=t) h
 have hout:=fun X h ho=>xtr (t:=t) (X:=X) h ho
 have hok:=fun X h ho=>xrW (t:=t) (X:=X) h ho
 have hmy:=fun X h=>xsl (xbO t) X (xiO t) h
 rw[hC] at hbad hout hok ⊢
 have HDC:=lH (fun X=>xl6 t X (by unfold maxLen;omega))
 obtain⟨D,hD⟩:∃ D,xch (xbO t)=D:=⟨_,rfl⟩
 rw[hD] at HDC hbad hout hok hmy
 obtain⟨X,er⟩:=D
 dsimp only at HDC hbad hout hok
 have HBAD:=lH hbad
 have HOUT:=lH (fun h=>hout X h)
 have HOKK:=lH (fun h=>hok X h)
 have HMY:=lH (fun h=>hmy X h)
 clear hbad hout hok hmy hD hC
 have HZ:=lH (HAt.made w xac 124)
 generalize hk:cH X=Hc at *
 have HK:=lH hk
 clear hk
 obtain⟨R,hR⟩:∃ R:Value,(.tuple #[.agg (cH C.h),.agg (xiF C.p),.int .i64 C.err])=R:=⟨_,rfl⟩
 rw[hR]
 have HR:=lH hR
 clear hR
 go_enter Tryz.func52,Tryz.ntmps52
 go_wp2_with fail
 obtain⟨W0,hW0⟩:∃ W0,(w.alloc (.cells #[.int .u64 0,.int .u64 0,.int .u64 0,.int .u64 0,.int .u64 0,.int .u64 0,.int .u64 0,.int .u64 0,.int .u64 0,.int .u64 0,.int .u64 0,.bool false,.int .u8 0,.int .u8 0,.int .u8 0,.int .i64 0,.int .i64 0,.int .i64 0,.int .i64 0,.int .i64 0,.int .i64 0,.int .i64 0,.int .i64 0,.int .i64 0] 124)).alloc (.cells #[.string { data:=#[] },.string { data:=#[] },.string { data:=#[] },.string { data:=#[] }] 125)=W0:=⟨_,rfl⟩
 have r0:HAt W0 w.heap.size 124 xac:=by
  rw[← hW0]
  exact(xab (by simp)).trans HZ.out
 have r1:W0.heap[w.heap.size+1]?=some (.cells #[.string xbs,.string xbs,.string xbs,.string xbs] 125 (0,0)):=by
  have:=xcg (w.alloc (.cells #[.int .u64 0,.int .u64 0,.int .u64 0,.int .u64 0,.int .u64 0,.int .u64 0,.int .u64 0,.int .u64 0,.int .u64 0,.int .u64 0,.int .u64 0,.bool false,.int .u8 0,.int .u8 0,.int .u8 0,.int .i64 0,.int .i64 0,.int .i64 0,.int .i64 0,.int .i64 0,.int .i64 0,.int .i64 0,.int .i64 0,.int .i64 0] 124)) (.cells #[.string { data:=#[] },.string { data:=#[] },.string { data:=#[] },.string { data:=#[] }] 125)
  rw[World.size_alloc] at this
  rw[← hW0]
  exact this
 have rb:Below w.heap.size w W0:=by rw[← hW0];exact((Below.refl _ w).alloc (Nat.le_refl _) _).alloc (by simp) _
 have rz:w.heap.size+2≤W0.heap.size:=by rw[← hW0];simp
 rw[hW0]
 clear hW0
 refine(HDC.out _).mono ?_
 rintro e w1 ⟨rfl,hb1⟩
 have hz1:HAt (w1.alloc (.cells (cH xac) 124)) w1.heap.size 124 xac:=HAt.made w1 xac _
 have hp:=xh1 (w1.alloc (.cells (cH xac) 124)) w1.heap.size 124 xac X hz1
 have hba:Below w1.heap.size w1 (w1.alloc (.cells (cH xac) 124)):=(Below.refl _ _).alloc (Nat.le_refl _) _
 have hsz1:=hb1.size
 have HW:Hid (CutWp w ((w1.alloc (.cells (cH xac) 124)).setRow w1.heap.size (cH X)) X w1.heap.size):=by
  have hb2:=hb1.trans (hba.mono hb1.size)
  refine lH ⟨hp.keep (r0.later hb2) (by omega),?_,hp.1,by omega,hp.2.2.1 _ _ (by omega) (rb.trans (hb2.mono rb.size))⟩
  refine(hp.2.2.2 _ (by omega)).trans ((hb2.block _ (by omega)).trans r1)
 have hz2:(w1.alloc (.cells #[.int .u64 0,.int .u64 0,.int .u64 0,.int .u64 0,.int .u64 0,.int .u64 0,.int .u64 0,.int .u64 0,.int .u64 0,.int .u64 0,.int .u64 0,.bool false,.int .u8 0,.int .u8 0,.int .u8 0,.int .i64 0,.int .i64 0,.int .i64 0,.int .i64 0,.int .i64 0,.int .i64 0,.int .i64 0,.int .i64 0,.int .i64 0] 124)).heap[w1.heap.size]?=some (.cells #[.int .u64 0,.int .u64 0,.int .u64 0,.int .u64 0,.int .u64 0,.int .u64 0,.int .u64 0,.int .u64 0,.int .u64 0,.int .u64 0,.int .u64 0,.bool false,.int .u8 0,.int .u8 0,.int .u8 0,.int .i64 0,.int .i64 0,.int .i64 0,.int .i64 0,.int .i64 0,.int .i64 0,.int .i64 0,.int .i64 0,.int .i64 0] 124 (0,0)):=hz1
 rw[HK.out] at HW
 have hsz:(Tryz.prog.info? 124).map (·.size)=some Hc.size:=by rw[← HK.out];exact xar
 have h24:24=Hc.size:=by rw[← HK.out];rfl
 have hone:Hc.all (·.oneCell')=true:=by rw[← HK.out];exact xdY X
 clear hz1 hp hba hb1 r0 r1 rb rz
 go_upto_region 2 with (first|(refine wpList_store_row rfl 124 _ _ rfl w1.heap.size Hc rfl rfl 124 _ hz2 hsz h24 hone ?_)|fail)
 have hzz:cH xac=Z24:=rfl
 rw[hzz] at HW
 unfold Z24 at HW
 generalize hW2:(w1.alloc (.cells #[.int .u64 0,.int .u64 0,.int .u64 0,.int .u64 0,.int .u64 0,.int .u64 0,.int .u64 0,.int .u64 0,.int .u64 0,.int .u64 0,.int .u64 0,.bool false,.int .u8 0,.int .u8 0,.int .u8 0,.int .i64 0,.int .i64 0,.int .i64 0,.int .i64 0,.int .i64 0,.int .i64 0,.int .i64 0,.int .i64 0,.int .i64 0] 124)).setRow w1.heap.size Hc=W2 at *
 clear hW2 hz2 h24 hone
 have HZW:Hid (ZeroWp w W2 w.heap.size):=lH (xhN HW.out.rh HW.out.rp HW.out.bel)
 by_cases he:er=0
 ·subst he
  obtain⟨hmX,hcX,_⟩:=HMY.out rfl
  have HSM:=lH (fun k=>xsY X k hmX hcX)
  go_upto_region 5 with fail
  obtain⟨W4,hW4⟩:∃ W4,W2.alloc (.cells #[.string { data:=#[] },.string { data:=#[] },.string { data:=#[] },.string { data:=#[] }] 125)=W4:=⟨_,rfl⟩
  have hlt5:w1.heap.size<W2.heap.size:=HW.out.hd.lt
  have g8:xuK W4 W2.heap.size (prA t X 0):=by rw[← hW4];exact xcg W2 _
  have hb4:Below W2.heap.size W2 W4:=by rw[← hW4];exact(Below.refl _ W2).alloc (Nat.le_refl _) _
  have hz4:W2.heap.size+1≤W4.heap.size:=by rw[← hW4];simp
  have HW4:=lH (HW.out.later hb4 hlt5)
  have G8:=lH g8
  have HLD:=HW4.out.hd
  unfold HAt at HLD
  rw[HK.out] at HLD
  have HLD:=lH HLD
  rw[hW4]
  clear hW4 g8 HZW HW
  have HSEC:=lH (fun W=>xkX X W)
  rw[HK.out] at HSEC
  go_wp2_with (first|(refine wpList_load_row rfl 124 _ rfl w1.heap.size rfl 124 Hc (0,0) _ HLD.out Tryz.underlying124 rfl hsz ?_)|fail)
  refine(HSEC.out _).mono ?_
  rintro e W3 ⟨rfl,hb3⟩
  unfold xws
  have HW3:=lH (HW4.out.later hb3 (by omega))
  have G9:=G8.out
  unfold xuK at G9
  have G9:=lH ((hb3.block _ (by omega)).trans G9)
  have hz3:W2.heap.size+1≤W3.heap.size:=Nat.le_trans hz4 hb3.size
  clear hb3 hb4 HW4 G8 HLD HSEC
  go_wp2_with fail
  go_loopw [22] (fun i wr=>∃ k:Nat,k≤4∧i=.int .i64 k∧Hid (xuK wr W2.heap.size (prA t X k))∧Hid (∀ j,j<k→¬ (t.size:Int)<frK X j+lnK X j)∧Hid (Below W2.heap.size W3 wr)) (fun i _=>4 - (intOf i).toNat)
  case atStart=>exact⟨0,by omega,rfl,G9,lH (fun j h=>by omega),lH (Below.refl _ _)⟩
  case round =>
   obtain⟨k,hk,rfl,HPR,HAL,HBW⟩:=hrel
   have HWr:=lH (HW3.out.later HBW.out (by omega))
   have hgr:W2.heap.size<wr.heap.size:=by have h:=HPR.out;unfold xuK at h;exact(Array.getElem?_eq_some_iff.1 h).1
   by_cases hk4:k<4
   ·have hd4:decide ((k:Int)<4)=true:=by simp;omega
    have hI:=fun W=>xpR X k hk4 W
    obtain⟨m1,m2,m3⟩:=HSM.out k
    have hw4:IntKind.u64.wrap (frK X k+lnK X k)=frK X k+lnK X k:=by rw[IntKind.wrap_u64];omega
    have hw5:IntKind.u64.wrap (t.size:Int)=(t.size:Int):=by rw[IntKind.wrap_u64];omega
    have HBT:Hid (xiE t X k=t.extract (frK X k).toNat (frK X k+lnK X k).toNat):=lH (by unfold xiE xmn;rw[show (frK X k+lnK X k).toNat=(frK X k).toNat+(lnK X k).toNat by omega])
    have HEN:=lH (fun W=>xaJ (frK X k) (lnK X k) (frK X k+lnK X k) W hw4)
    by_cases ho:(t.size:Int)<frK X k+lnK X k
    ·have HO:=lH (HOUT.out (by simp) (xvR hk4 ho))
     generalize frK X k=fr at *
     generalize lnK X k=ln at *
     have HRE:Hid (R=.tuple #[.agg (cH xac),.agg P4,.int .i64 8]):=lH (by rw[← HR.out,HO.out];rfl)
     have hdo:decide ((t.size:Int)<fr+ln)=true:=by simpa using ho
     clear ho
     go_wp2_with fail
     refine(HEN.out _).mono ?_
     rintro e w5 ⟨rfl,rfl⟩
     have HZW:Hid (ZeroWp w ((wr.alloc (.cells #[.int .u64 fr,.int .u64 ln] 122)).alloc (.cells #[.int .u64 fr,.int .u64 ln] 122)) w.heap.size):=lH (by
      have h:=HWr.out.later (((Below.refl wr.heap.size wr).alloc (Nat.le_refl _) (.cells #[.int .u64 fr,.int .u64 ln] 122)).alloc (by simp) (.cells #[.int .u64 fr,.int .u64 ln] 122)) HWr.out.hd.lt
      exact xhN h.rh h.rp h.bel)
     have z1:=HZW.out.s1
     have z2:=HZW.out.s2
     generalize ((wr.alloc (.cells #[.int .u64 fr,.int .u64 ln] 122)).alloc (.cells #[.int .u64 fr,.int .u64 ln] 122))=wz at *
     go_wp2_with (first|(refine wpList_store_row rfl 124 _ _ rfl w.heap.size Z24 rfl rfl 124 Z24 z1 xhy rfl xmG ?_)|(refine wpList_store_row rfl 125 _ _ rfl (w.heap.size+1) P4 rfl rfl 125 P4 z2 xom rfl xrU ?_)|fail)
     refine bodyPost_ret (xcj rfl _ _ w.heap.size (w.heap.size+1) (cH xac) P4 (.int .i64 8) rfl rfl rfl (xki HZW.out.e1) (xmJ HZW.out.e2)) rfl ⟨by rw[HRE.out],HZW.out.e3⟩
    ·have HAL2:Hid (∀ j,j<k+1→¬ (t.size:Int)<frK X j+lnK X j):=lH (fun j hj=>by
      rcases Nat.lt_or_ge j k with h|h
      ·exact HAL.out j h
      ·obtain rfl:j=k:=by omega
       exact ho)
     have hs2:frK X k≤frK X k+lnK X k:=by omega
     have hs3:frK X k+lnK X k≤(t.size:Int):=by omega
     have HCL:=lH (fun W=>xgi (t.extract (frK X k).toNat (frK X k+lnK X k).toNat) W (by rw[ByteArray.size_extract];omega))
     generalize frK X k=fr at *
     generalize lnK X k=ln at *
     have hdo:decide ((t.size:Int)<fr+ln)=false:=by simpa using ho
     have HP:=lH (fun(W:World) (hB:Below wr.heap.size wr W)=>(hB.block _ hgr).trans HPR.out)
     have HCE:=lH (fun(W:World) (hB:Below wr.heap.size wr W)=>(show W.cell? ⟨W2.heap.size,k,none⟩=some (.string xbs) by simp[World.cell?,HP.out W hB,xvH t X k hk4]))
     have HFE:=lH (fun(W:World) (hB:Below wr.heap.size wr W) (j:Nat)=>(show W.frozen? ⟨W2.heap.size,j,none⟩=false by simp[World.frozen?,HP.out W hB]))
     clear ho
     go_wp2_with fail
     refine(HEN.out _).mono ?_
     rintro e w5 ⟨rfl,rfl⟩
     go_wp2_with fail
     go_region_with (first|(refine(HEN.out _).mono ?_;rintro e w6 ⟨rfl,rfl⟩)|(refine(HCL.out _).mono ?_;rintro e w7 ⟨rfl,hb7⟩;have hbb:Below wr.heap.size wr w7:=(by go_grown:Below wr.heap.size wr _).trans (hb7.mono (by simp;omega));have p7:=HCE.out w7 hbb;have f7:=HFE.out w7 hbb))
     all_goals
      go_wp2_with fail
      go_roundw
      case rel =>
       refine⟨k+1,by omega,by simp,lH ?_,lH (fun j hj=>by have:=HAL2.out j hj;omega),lH ?_⟩
       ·have h:=hset (HP.out _ hbb) k (.string (xiE t X k))
        rw[xuk t X k hk4,HBT.out] at h
        exact h
       ·exact(HBW.out.trans (hbb.mono (by omega))).setCell (by simp) _
      case measure=>simp[intOf];omega
   ·obtain rfl:k=4:=by omega
    have hB:=HWr.out.later (B:=wr.heap.size) (W':=wr.drew) ⟨rfl,rfl,rfl,Nat.le_refl _,fun _ _=>rfl⟩ HWr.out.hd.lt
    have hPP:xuK wr.drew W2.heap.size (prA t X 4):=HPR.out
    have HRE:Hid (R=.tuple #[.agg Hc,.agg (prA t X 4),.int .i64 0]):=lH (by
     rw[← HR.out,HOKK.out (by simp) (xtI (fun j hj=>by have:=HAL.out j hj;omega)),← HK.out]
     rfl)
    have hlt2:=hB.lt
    have HFU:=lH (xmC (X:=X) hB.rh hB.rp hB.bel (by have:=HWr.out.lt;omega) hPP)
    have hX0:wr.drew.heap[w1.heap.size]?=some (.cells (cH X) 124 (0,0)):=hB.hd
    have ho4:(prA t X 4).all (·.oneCell')=true:=by simp[prA,Value.oneCell']
    have hs4:(Tryz.prog.info? 125).map (·.size)=some (prA t X 4).size:=xfk
    have h44:4=(prA t X 4).size:=rfl
    have hoX:(cH X).all (·.oneCell')=true:=xdY X
    have h24:24=(cH X).size:=rfl
    rw[HK.out] at HFU hX0 hoX h24
    generalize prA t X 4=P at *
    have H44:=lH h44
    have H24:=lH h24
    clear h44 h24
    clear HPR HAL HWr hB HW3 G9 HBW
    go_wp2_with fail
    refine wp_region_any (by kernel_rfl) ?_
    change wpAny _ _ _ _ _ _ _ (World.drew _)
    refine wpAny_ready (rs:=[0,1]) (by kernel_rfl) (by simp) ?_
    refine AllReady.cons rfl (fun K hK=>?_) (AllReady.cons rfl (fun K hK=>?_) AllReady.nil)
    ·
     rw[if_pos (by rfl)]
     refine wp_load_row 124 _ rfl w1.heap.size rfl 124 Hc (0,0) _ hX0 Tryz.underlying124 rfl hsz (hK _ _ ?_)
     clear hK K
     try simp only[Act.put,zsA,zsB,zsC]
     refine wpAny_ready (rs:=[1,2]) (by kernel_rfl) (by simp) ?_
     refine AllReady.cons rfl (fun K hK=>?_) (AllReady.cons rfl (fun K hK=>?_) AllReady.nil)
     ·
      rw[if_pos (by rfl)]
      refine wp_load_row 125 _ rfl W2.heap.size rfl 125 P (0,0) _ HFU.out.p0 Tryz.underlying125 rfl hs4 (hK _ _ ?_)
      clear hK K
      try simp only[Act.put,zsA,zsB,zsC]
      refine wpAny_ready (rs:=[2]) (by kernel_rfl) (by simp) ?_
      refine AllReady.cons rfl (fun K hK=>?_) AllReady.nil
      rw[if_pos (by rfl)]
      refine wp_store_row 124 _ _ rfl w.heap.size Hc rfl rfl 124 Z24 HFU.out.s1 hsz H24.out hoX (hK _ _ ?_)
      clear hK K
      try simp only[Act.put,zsA,zsB,zsC]
      refine wpAny_ready (rs:=[3]) (by kernel_rfl) (by simp) ?_
      refine AllReady.cons rfl (fun K hK=>?_) AllReady.nil
      rw[if_pos (by rfl)]
      refine wp_store_row 125 _ _ rfl (w.heap.size+1) P rfl rfl 125 P4 HFU.out.s2 hs4 H44.out ho4 (hK _ _ ?_)
      clear hK K
      try simp only[Act.put,zsA,zsB,zsC]
      refine wpAny_ready (rs:=[4]) (by kernel_rfl) (by simp) ?_
      refine AllReady.cons rfl (fun K hK=>?_) AllReady.nil
      go_simp
      refine hK _ _ ?_
      clear hK K
      try simp only[Act.put,zsA,zsB,zsC]
      refine wpAny_done (by kernel_rfl) ?_ _
      go_wp2_with fail
      refine bodyPost_ret (xcj rfl _ _ w.heap.size (w.heap.size+1) Hc P (.int .i64 0) rfl rfl rfl (run_loadVar_row _ _ _ _ Hc (0,0) _ HFU.out.e1 Tryz.underlying124 rfl hsz) (run_loadVar_row _ _ _ _ P (0,0) _ (HFU.out.e2 H44.out.symm) Tryz.underlying125 rfl hs4)) rfl ⟨by rw[HRE.out],HFU.out.e3⟩
     ·
      rw[if_pos (by rfl)]
      refine wp_store_row 124 _ _ rfl w.heap.size Hc rfl rfl 124 Z24 HFU.out.s1 hsz H24.out hoX (hK _ _ ?_)
      clear hK K
      try simp only[Act.put,zsA,zsB,zsC]
      refine wpAny_ready (rs:=[1]) (by kernel_rfl) (by simp) ?_
      refine AllReady.cons rfl (fun K hK=>?_) AllReady.nil
      rw[if_pos (by rfl)]
      refine wp_load_row 125 _ rfl W2.heap.size rfl 125 P (0,0) _ HFU.out.p1 Tryz.underlying125 rfl hs4 (hK _ _ ?_)
      clear hK K
      try simp only[Act.put,zsA,zsB,zsC]
      refine wpAny_ready (rs:=[3]) (by kernel_rfl) (by simp) ?_
      refine AllReady.cons rfl (fun K hK=>?_) AllReady.nil
      rw[if_pos (by rfl)]
      refine wp_store_row 125 _ _ rfl (w.heap.size+1) P rfl rfl 125 P4 HFU.out.s2 hs4 H44.out ho4 (hK _ _ ?_)
      clear hK K
      try simp only[Act.put,zsA,zsB,zsC]
      refine wpAny_ready (rs:=[4]) (by kernel_rfl) (by simp) ?_
      refine AllReady.cons rfl (fun K hK=>?_) AllReady.nil
      go_simp
      refine hK _ _ ?_
      clear hK K
      try simp only[Act.put,zsA,zsB,zsC]
      refine wpAny_done (by kernel_rfl) ?_ _
      go_wp2_with fail
      refine bodyPost_ret (xcj rfl _ _ w.heap.size (w.heap.size+1) Hc P (.int .i64 0) rfl rfl rfl (run_loadVar_row _ _ _ _ Hc (0,0) _ HFU.out.e1 Tryz.underlying124 rfl hsz) (run_loadVar_row _ _ _ _ P (0,0) _ (HFU.out.e2 H44.out.symm) Tryz.underlying125 rfl hs4)) rfl ⟨by rw[HRE.out],HFU.out.e3⟩
    ·
     rw[if_pos (by rfl)]
     refine wp_load_row 125 _ rfl W2.heap.size rfl 125 P (0,0) _ HFU.out.p0 Tryz.underlying125 rfl hs4 (hK _ _ ?_)
     clear hK K
     try simp only[Act.put,zsA,zsB,zsC]
     refine wpAny_ready (rs:=[0]) (by kernel_rfl) (by simp) ?_
     refine AllReady.cons rfl (fun K hK=>?_) AllReady.nil
     rw[if_pos (by rfl)]
     refine wp_load_row 124 _ rfl w1.heap.size rfl 124 Hc (0,0) _ hX0 Tryz.underlying124 rfl hsz (hK _ _ ?_)
     clear hK K
     try simp only[Act.put,zsA,zsB,zsC]
     refine wpAny_ready (rs:=[2]) (by kernel_rfl) (by simp) ?_
     refine AllReady.cons rfl (fun K hK=>?_) AllReady.nil
     rw[if_pos (by rfl)]
     refine wp_store_row 124 _ _ rfl w.heap.size Hc rfl rfl 124 Z24 HFU.out.s1 hsz H24.out hoX (hK _ _ ?_)
     clear hK K
     try simp only[Act.put,zsA,zsB,zsC]
     refine wpAny_ready (rs:=[3]) (by kernel_rfl) (by simp) ?_
     refine AllReady.cons rfl (fun K hK=>?_) AllReady.nil
     rw[if_pos (by rfl)]
     refine wp_store_row 125 _ _ rfl (w.heap.size+1) P rfl rfl 125 P4 HFU.out.s2 hs4 H44.out ho4 (hK _ _ ?_)
     clear hK K
     try simp only[Act.put,zsA,zsB,zsC]
     refine wpAny_ready (rs:=[4]) (by kernel_rfl) (by simp) ?_
     refine AllReady.cons rfl (fun K hK=>?_) AllReady.nil
     go_simp
     refine hK _ _ ?_
     clear hK K
     try simp only[Act.put,zsA,zsB,zsC]
     refine wpAny_done (by kernel_rfl) ?_ _
     go_wp2_with fail
     refine bodyPost_ret (xcj rfl _ _ w.heap.size (w.heap.size+1) Hc P (.int .i64 0) rfl rfl rfl (run_loadVar_row _ _ _ _ Hc (0,0) _ HFU.out.e1 Tryz.underlying124 rfl hsz) (run_loadVar_row _ _ _ _ P (0,0) _ (HFU.out.e2 H44.out.symm) Tryz.underlying125 rfl hs4)) rfl ⟨by rw[HRE.out],HFU.out.e3⟩
 ·have hC:=HBAD.out he
  have hen:(er != 0)=true:=by simpa using he
  have HRE:Hid (R=.tuple #[.agg (cH xac),.agg P4,.int .i64 er]):=lH (by rw[← HR.out,hC];rfl)
  have z1:=HZW.out.s1
  have z2:=HZW.out.s2
  clear he hC
  go_wp2_with (first|(refine wpList_store_row rfl 124 _ _ rfl w.heap.size Z24 rfl rfl 124 Z24 z1 xhy rfl xmG ?_)|(refine wpList_store_row rfl 125 _ _ rfl (w.heap.size+1) P4 rfl rfl 125 P4 z2 xom rfl xrU ?_)|fail)
  refine bodyPost_ret (xcj rfl _ _ w.heap.size (w.heap.size+1) (cH xac) P4 (.int .i64 er) rfl rfl rfl (xki HZW.out.e1) (xmJ HZW.out.e2)) rfl ⟨by rw[HRE.out],HZW.out.e3⟩
structure TwoW (w W:World) (Hc P:Array Value):Prop where
 s1:W.heap[w.heap.size]?=some (.cells Z24 124 (0,0))
 s2:(W.setRow w.heap.size Hc).heap[w.heap.size+1]?=some (.cells P4 125 (0,0))
 e1:((W.setRow w.heap.size Hc).setRow (w.heap.size+1) P).heap[w.heap.size]?=some (.cells Hc 124 (0,0))
 e2:((W.setRow w.heap.size Hc).setRow (w.heap.size+1) P).heap[w.heap.size+1]?=some (.cells P 125 (0,0))
 e3:Below w.heap.size w ((W.setRow w.heap.size Hc).setRow (w.heap.size+1) P)
 e4:w.heap.size+2≤((W.setRow w.heap.size Hc).setRow (w.heap.size+1) P).heap.size
theorem xvM (w:World) (X:Hd) (p:Pt):TwoW w ((w.alloc (.cells Z24 124)).alloc (.cells P4 125)) (cH X) (xiF p):=by
 have hz:cH xac=Z24:=rfl
 have h1:HAt ((w.alloc (.cells Z24 124)).alloc (.cells P4 125)) w.heap.size 124 xac:=(xab (by simp)).trans (HAt.made w xac _)
 have h2:((w.alloc (.cells Z24 124)).alloc (.cells P4 125)).heap[w.heap.size+1]?=some (.cells P4 125 (0,0)):=by
  have:=xcg (w.alloc (.cells Z24 124)) (.cells P4 125)
  rw[World.size_alloc] at this
  exact this
 have hb:Below w.heap.size w ((w.alloc (.cells Z24 124)).alloc (.cells P4 125)):=((Below.refl _ w).alloc (Nat.le_refl _) _).alloc (by simp) _
 have hs:w.heap.size+2≤((w.alloc (.cells Z24 124)).alloc (.cells P4 125)).heap.size:=by simp
 generalize (w.alloc (.cells Z24 124)).alloc (.cells P4 125)=W at *
 have hp:=xh1 W w.heap.size 124 xac X h1
 have g2:(W.setRow w.heap.size (cH X)).heap[w.heap.size+1]?=some (.cells P4 125 (0,0)):=(hp.2.2.2 _ (by omega)).trans h2
 have hb2:Below w.heap.size w ((W.setRow w.heap.size (cH X)).setRow (w.heap.size+1) (xiF p)):=below_setRow (hp.2.2.1 _ _ (Nat.le_refl _) hb) (by omega) _
 refine⟨h1,g2,(setRow_other _ _ _ _ (by omega)).trans hp.1,hrow g2 rfl,hb2,?_⟩
 simpa[World.setRow] using hs
end Go.Proofs.YtjinnigjfopbcaaGreatDoor
namespace Go.Proofs.YtjinnigjfopbcaaGreatDoor
set_option linter.unusedVariables false
set_option linter.unusedSimpArgs false
open Go.RowKit
set_option maxRecDepth 20000
theorem xkp (a b c:ByteArray) (f l:Int) (hf:f=a.size) (hl:l=b.size):xmn (a++b++c) f l=b:=by
 unfold xmn
 have h1:f.toNat=a.size:=by omega
 have h2:l.toNat=b.size:=by omega
 rw[h1,h2]
 apply ByteArray.ext
 apply Array.toList_inj.1
 rw[ByteArray.data_extract,Array.toList_extract,ByteArray.data_append,ByteArray.data_append,Array.toList_append,Array.toList_append]
 have ha:a.data.toList.length=a.size:=rfl
 have hb:b.data.toList.length=b.size:=rfl
 rw[List.extract_eq_take_drop,List.append_assoc,← ha,List.drop_left,show a.data.toList.length+b.size - a.data.toList.length=b.data.toList.length by omega,List.take_left]
def xeB (h:Hd) (p:Pt):Hd:=xcB h (xcD p).sec
def xrX (p:Pt):Nat:=p.p0.size+p.p1.size+p.p2.size+p.p3.size
theorem xje {h:Hd} {p:Pt} (e:(xbe h p).2=0):ckH (xeB h p)=0∧(xbe h p).1=str (xbg (xeB h p))++p.p0++p.p1++p.p2++p.p3:=by
 unfold xbe at e ⊢
 split at e
 ·rename_i h1;exact absurd e h1
 split at e
 ·rename_i h2;exact absurd e h2
 rename_i h1 h2
 rw[if_neg h1,if_neg h2]
 have h3:=Classical.not_not.1 h2
 have hc:ckH (xcB h (xcD p).sec)=0:=by
  unfold xfp at h3
  split at h3
  ·assumption
  ·exact h3
 refine⟨hc,?_⟩
 unfold xfp xeB
 rw[if_pos hc]
theorem xkj {h:Hd} {p:Pt} (hm:xeJ h) (hp:Few p 200000000):xeJ (xeB h p):=xkx hm (xkd hp)
theorem xdL {h:Hd} {p:Pt} (hm:xeJ h) (hp:Few p 200000000) (e:(xbe h p).2=0):(xbe h p).1.size=127+xrX p:=by
 obtain⟨hc,hs⟩:=xje e
 rw[hs]
 simp only[ByteArray.size_append,xa9,xd6 _ (xkj hm hp) hc,xrX]
 omega
theorem xgR {h:Hd} {p:Pt} (hp:Few p 200000000):(xeB h p).rf=127∧(xeB h p).rl=p.p0.size∧(xeB h p).mf=127+p.p0.size∧(xeB h p).ml=p.p1.size∧(xeB h p).lf=127+p.p0.size+p.p1.size∧(xeB h p).ll=p.p2.size ∧
  (xeB h p).df=127+p.p0.size+p.p1.size+p.p2.size∧(xeB h p).dl=p.p3.size:=by
 unfold xeB
 rw[xff hp]
 exact⟨rfl,rfl,rfl,rfl,rfl,rfl,rfl,rfl⟩
theorem xpp {h:Hd} {p:Pt} (hm:xeJ h) (hc:ckH (xeB h p)=0) (hp:Few p 200000000) (r:List Int):xch (xbg (xeB h p)++r)=(xeB h p,0):=xsM _ r (xkj hm hp) hc
theorem xqG {h:Hd} {p:Pt} (hm:xeJ h) (hp:Few p 200000000) (e:(xbe h p).2=0) (b:ByteArray):xaV ((xbe h p).1++b)=⟨xeB h p,p,0⟩:=by
 have hz:=xdL hm hp e
 obtain⟨hc,hs⟩:=xje e
 obtain⟨s0,s1,s2,s3,s4,s5,s6,s7⟩:=xgR (h:=h) hp
 have hB:(str (xbg (xeB h p))).size=127:=by rw[xa9,xd6 _ (xkj hm hp) hc]
 have hd:xch (xbO ((xbe h p).1++b))=(xeB h p,0):=by
  rw[hs]
  simp only[xmA,xu0 _ (xlV _),List.append_assoc]
  exact xpp hm hc hp _
 have ho:¬ xeP (xeB h p) ((xbe h p).1++b).size:=by
  rw[ByteArray.size_append,hz]
  unfold xeP xrX
  omega
 rw[xrW hd ho]
 obtain⟨p0,p1,p2,p3⟩:=p
 dsimp only at s0 s1 s2 s3 s4 s5 s6 s7
 generalize hX:xeB h ⟨p0,p1,p2,p3⟩=X at *
 have b0:xiE ((xbe h ⟨p0,p1,p2,p3⟩).1++b) X 0=p0:=by
  rw[hs,show str (xbg X)++p0++p1++p2++p3++b=str (xbg X)++p0++(p1++p2++p3++b) by simp only[ByteArray.append_assoc]]
  exact xkp _ _ _ _ _ (by rw[hB];exact s0) s1
 have b1:xiE ((xbe h ⟨p0,p1,p2,p3⟩).1++b) X 1=p1:=by
  rw[hs,show str (xbg X)++p0++p1++p2++p3++b=(str (xbg X)++p0)++p1++(p2++p3++b) by simp only[ByteArray.append_assoc]]
  exact xkp _ _ _ _ _ (by rw[ByteArray.size_append,hB];show X.mf=_;omega) s3
 have b2:xiE ((xbe h ⟨p0,p1,p2,p3⟩).1++b) X 2=p2:=by
  rw[hs,show str (xbg X)++p0++p1++p2++p3++b=(str (xbg X)++p0++p1)++p2++(p3++b) by simp only[ByteArray.append_assoc]]
  exact xkp _ _ _ _ _ (by simp only[ByteArray.size_append,hB];show X.lf=_;omega) s5
 have b3:xiE ((xbe h ⟨p0,p1,p2,p3⟩).1++b) X 3=p3:=by
  rw[hs]
  exact xkp _ _ _ _ _ (by simp only[ByteArray.size_append,hB];show X.df=_;omega) s7
 rw[b0,b1,b2,b3]
theorem xn2 {h:Hd} {p:Pt} (hm:xeJ h) (hp:Few p 200000000) (e:(xbe h p).2=0):xsS (xeB h p) (xbe h p).1.size=0:=by
 have hz:=xdL hm hp e
 obtain⟨hc,hs⟩:=xje e
 obtain⟨s0,s1,s2,s3,s4,s5,s6,s7⟩:=xgR (h:=h) hp
 rw[hz]
 unfold xsS xrX
 rw[if_neg (fun f=>f hc),if_neg (by omega),if_neg (by omega),if_neg (by omega),if_neg (by omega),if_neg (by omega)]
theorem xpT {h:Hd} {p:Pt} (hm:xeJ h) (hp:Few p 200000000) (e:(xbe h p).2=0):(xeB h p).df+(xeB h p).dl=(xbe h p).1.size:=by
 obtain⟨s0,s1,s2,s3,s4,s5,s6,s7⟩:=xgR (h:=h) hp
 rw[xdL hm hp e]
 unfold xrX
 omega
end Go.Proofs.YtjinnigjfopbcaaGreatDoor
