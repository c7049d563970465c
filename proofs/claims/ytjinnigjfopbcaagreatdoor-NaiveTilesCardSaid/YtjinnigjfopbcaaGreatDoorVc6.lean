/- cYg cPe cPf cYk. -/
import Derived.Test.YtjinnigjfopbcaaGreatDoorVc5
import Derived.Test.YtjinnigjfopbcaaGreatDoorVs
set_option maxHeartbeats 16000000
namespace Go.Proofs.YtjinnigjfopbcaaGreatDoor
set_option linter.unusedVariables false
set_option linter.unusedSimpArgs false
open Go.RowKit
set_option maxRecDepth 100000
structure CutW (w W:World) (X:Hd) (b5:Nat):Prop where
 rh:HAt W w.heap.size 103 xaa
 rp:W.heap[w.heap.size+1]?=some (.cells #[.string xbr,.string xbr,.string xbr,.string xbr] 125 (0,0))
 hd:HAt W b5 103 X
 lt:w.heap.size+2≤b5
 bel:Below w.heap.size w W
def Z24:Array Value:=#[.int .u64 0,.int .u64 0,.int .u64 0,.int .u64 0,.int .u64 0,.int .u64 0,.int .u64 0,.int .u64 0,.int .u64 0,.int .u64 0,.int .u64 0,.bool false,.int .u8 0,.int .u8 0,.int .u8 0,.int .i64 0,.int .i64 0,.int .i64 0,.int .i64 0,.int .i64 0,.int .i64 0,.int .i64 0,.int .i64 0,.int .i64 0]
def P4:Array Value:=#[.string { data:=#[] },.string { data:=#[] },.string { data:=#[] },.string { data:=#[] }]
theorem xh9:Z24.all (·.oneCell')=true:=by simp[Z24,Value.oneCell']
theorem xmk:P4.all (·.oneCell')=true:=by simp[P4,Value.oneCell']
theorem xmm:(Tryz.prog.info? 103).map (·.size)=some Z24.size:=xbI
theorem xie:(Tryz.prog.info? 125).map (·.size)=some P4.size:=xev
structure ZeroW (w W:World) (b:Nat):Prop where
 s1:W.heap[b]?=some (.cells Z24 103 (0,0))
 s2:(W.setRow b Z24).heap[b+1]?=some (.cells P4 125 (0,0))
 e1:HAt ((W.setRow b Z24).setRow (b+1) P4) b 103 xaa
 e2:((W.setRow b Z24).setRow (b+1) P4).heap[b+1]?=some (.cells P4 125 (0,0))
 e3:Below w.heap.size w ((W.setRow b Z24).setRow (b+1) P4)
theorem xl1 {w W:World} (h1:HAt W w.heap.size 103 xaa) (h2:W.heap[w.heap.size+1]?=some (.cells P4 125 (0,0))) (hb:Below w.heap.size w W):ZeroW w W w.heap.size:=by
 have hz:cH xaa=Z24:=rfl
 have hp:=xeQ W w.heap.size 103 xaa xaa h1
 rw[hz] at hp
 have g2:(W.setRow w.heap.size Z24).heap[w.heap.size+1]?=some (.cells P4 125 (0,0)):=(hp.2.2.2 _ (by omega)).trans h2
 refine⟨h1,g2,(setRow_other _ _ _ _ (by omega)).trans hp.1,hrow g2 rfl,below_setRow (hp.2.2.1 _ _ (Nat.le_refl _) hb) (by omega) _⟩
def xod (W:World) (b:Nat) (arr:Array Value):Prop:=W.heap[b]?=some (.cells arr 125 (0,0))
structure FullW (w W:World) (g:Nat) (Hc P:Array Value):Prop where
 s1:W.heap[w.heap.size]?=some (.cells Z24 103 (0,0))
 p0:W.heap[g]?=some (.cells P 125 (0,0))
 s2:(W.setRow w.heap.size Hc).heap[w.heap.size+1]?=some (.cells P4 125 (0,0))
 p1:(W.setRow w.heap.size Hc).heap[g]?=some (.cells P 125 (0,0))
 e1:((W.setRow w.heap.size Hc).setRow (w.heap.size+1) P).heap[w.heap.size]?=some (.cells Hc 103 (0,0))
 e2:P.size=4→((W.setRow w.heap.size Hc).setRow (w.heap.size+1) P).heap[w.heap.size+1]?=some (.cells P 125 (0,0))
 e3:Below w.heap.size w ((W.setRow w.heap.size Hc).setRow (w.heap.size+1) P)
theorem xty {w W:World} {X:Hd} {g:Nat} {P:Array Value} (h1:HAt W w.heap.size 103 xaa) (h2:W.heap[w.heap.size+1]?=some (.cells P4 125 (0,0))) (hb:Below w.heap.size w W) (hg:w.heap.size+1<g)
  (hP:xod W g P):FullW w W g (cH X) P:=by
 have hz:cH xaa=Z24:=rfl
 have hp:=xeQ W w.heap.size 103 xaa X h1
 have g2:(W.setRow w.heap.size (cH X)).heap[w.heap.size+1]?=some (.cells P4 125 (0,0)):=(hp.2.2.2 _ (by omega)).trans h2
 refine⟨h1,hP,g2,(hp.2.2.2 _ (by omega)).trans hP,(setRow_other _ _ _ _ (by omega)).trans hp.1,fun hs=>hrow g2 (by rw[hs];rfl),below_setRow (hp.2.2.1 _ _ (Nat.le_refl _) hb) (by omega) _⟩
theorem CutW.later {w W W':World} {X:Hd} {b5 B:Nat} (h:CutW w W X b5) (hb:Below B W W') (hB:b5<B):CutW w W' X b5:=by
 have hl:=h.lt
 refine⟨(hb.block _ (by omega)).trans h.rh,(hb.block _ (by omega)).trans h.rp,(hb.block _ hB).trans h.hd,hl,h.bel.trans (hb.mono (by omega))⟩
theorem xna (t:ByteArray) (w:World) (ht:t.size≤1000000):Calls Tryz.prog 55 #[.string t] w (xg3 (xa7 t) w):=by
 unfold xg3
 obtain⟨C,hC⟩:∃ C,xa7 t=C:=⟨_,rfl⟩
 have hbad:=fun h=>xqB (t:=t) h
 have hout:=fun X h ho=>xrH (t:=t) (X:=X) h ho
 have hok:=fun X h ho=>xul (t:=t) (X:=X) h ho
 have hmy:=fun X h=>xqO (xci t) X (xik t) h
 rw[hC] at hbad hout hok ⊢
 have HDC:=lH (fun X=>xkL t X (by unfold maxLen;omega))
 obtain⟨D,hD⟩:∃ D,xcD (xci t)=D:=⟨_,rfl⟩
 rw[hD] at HDC hbad hout hok hmy
 obtain⟨X,er⟩:=D
 dsimp only at HDC hbad hout hok
 have HBAD:=lH hbad
 have HOUT:=lH (fun h=>hout X h)
 have HOKK:=lH (fun h=>hok X h)
 have HMY:=lH (fun h=>hmy X h)
 clear hbad hout hok hmy hD hC
 have HZ:=lH (HAt.made w xaa 103)
 generalize hk:cH X=Hc at *
 have HK:=lH hk
 clear hk
 obtain⟨R,hR⟩:∃ R:Value,(.tuple #[.agg (cH C.h),.agg (xfg C.p),.int .i64 C.err])=R:=⟨_,rfl⟩
 rw[hR]
 have HR:=lH hR
 clear hR
 go_enter Tryz.func55,Tryz.ntmps55
 go_wp2_with fail
 obtain⟨W0,hW0⟩:∃ W0,(w.alloc (.cells #[.int .u64 0,.int .u64 0,.int .u64 0,.int .u64 0,.int .u64 0,.int .u64 0,.int .u64 0,.int .u64 0,.int .u64 0,.int .u64 0,.int .u64 0,.bool false,.int .u8 0,.int .u8 0,.int .u8 0,.int .i64 0,.int .i64 0,.int .i64 0,.int .i64 0,.int .i64 0,.int .i64 0,.int .i64 0,.int .i64 0,.int .i64 0] 103)).alloc (.cells #[.string { data:=#[] },.string { data:=#[] },.string { data:=#[] },.string { data:=#[] }] 125)=W0:=⟨_,rfl⟩
 have r0:HAt W0 w.heap.size 103 xaa:=by
  rw[← hW0]
  exact(xac (by simp)).trans HZ.out
 have r1:W0.heap[w.heap.size+1]?=some (.cells #[.string xbr,.string xbr,.string xbr,.string xbr] 125 (0,0)):=by
  have:=xa2 (w.alloc (.cells #[.int .u64 0,.int .u64 0,.int .u64 0,.int .u64 0,.int .u64 0,.int .u64 0,.int .u64 0,.int .u64 0,.int .u64 0,.int .u64 0,.int .u64 0,.bool false,.int .u8 0,.int .u8 0,.int .u8 0,.int .i64 0,.int .i64 0,.int .i64 0,.int .i64 0,.int .i64 0,.int .i64 0,.int .i64 0,.int .i64 0,.int .i64 0] 103)) (.cells #[.string { data:=#[] },.string { data:=#[] },.string { data:=#[] },.string { data:=#[] }] 125)
  rw[World.size_alloc] at this
  rw[← hW0]
  exact this
 have rb:Below w.heap.size w W0:=by rw[← hW0];exact((Below.refl _ w).alloc (Nat.le_refl _) _).alloc (by simp) _
 have rz:w.heap.size+2≤W0.heap.size:=by rw[← hW0];simp
 rw[hW0]
 clear hW0
 refine(HDC.out _).mono ?_
 rintro e w1 ⟨rfl,hb1⟩
 have hz1:HAt (w1.alloc (.cells (cH xaa) 103)) w1.heap.size 103 xaa:=HAt.made w1 xaa _
 have hp:=xeQ (w1.alloc (.cells (cH xaa) 103)) w1.heap.size 103 xaa X hz1
 have hba:Below w1.heap.size w1 (w1.alloc (.cells (cH xaa) 103)):=(Below.refl _ _).alloc (Nat.le_refl _) _
 have hsz1:=hb1.size
 have HW:Hid (CutW w ((w1.alloc (.cells (cH xaa) 103)).setRow w1.heap.size (cH X)) X w1.heap.size):=by
  have hb2:=hb1.trans (hba.mono hb1.size)
  refine lH ⟨hp.keep (r0.later hb2) (by omega),?_,hp.1,by omega,hp.2.2.1 _ _ (by omega) (rb.trans (hb2.mono rb.size))⟩
  refine(hp.2.2.2 _ (by omega)).trans ((hb2.block _ (by omega)).trans r1)
 have hz2:(w1.alloc (.cells #[.int .u64 0,.int .u64 0,.int .u64 0,.int .u64 0,.int .u64 0,.int .u64 0,.int .u64 0,.int .u64 0,.int .u64 0,.int .u64 0,.int .u64 0,.bool false,.int .u8 0,.int .u8 0,.int .u8 0,.int .i64 0,.int .i64 0,.int .i64 0,.int .i64 0,.int .i64 0,.int .i64 0,.int .i64 0,.int .i64 0,.int .i64 0] 103)).heap[w1.heap.size]?=some (.cells #[.int .u64 0,.int .u64 0,.int .u64 0,.int .u64 0,.int .u64 0,.int .u64 0,.int .u64 0,.int .u64 0,.int .u64 0,.int .u64 0,.int .u64 0,.bool false,.int .u8 0,.int .u8 0,.int .u8 0,.int .i64 0,.int .i64 0,.int .i64 0,.int .i64 0,.int .i64 0,.int .i64 0,.int .i64 0,.int .i64 0,.int .i64 0] 103 (0,0)):=hz1
 rw[HK.out] at HW
 have hsz:(Tryz.prog.info? 103).map (·.size)=some Hc.size:=by rw[← HK.out];exact xbI
 have h24:24=Hc.size:=by rw[← HK.out];rfl
 have hone:Hc.all (·.oneCell')=true:=by rw[← HK.out];exact xcl X
 clear hz1 hp hba hb1 r0 r1 rb rz
 go_upto_region 2 with (first|(refine wpList_store_row rfl 103 _ _ rfl w1.heap.size Hc rfl rfl 103 _ hz2 hsz h24 hone ?_)|fail)
 have hzz:cH xaa=Z24:=rfl
 rw[hzz] at HW
 unfold Z24 at HW
 generalize hW2:(w1.alloc (.cells #[.int .u64 0,.int .u64 0,.int .u64 0,.int .u64 0,.int .u64 0,.int .u64 0,.int .u64 0,.int .u64 0,.int .u64 0,.int .u64 0,.int .u64 0,.bool false,.int .u8 0,.int .u8 0,.int .u8 0,.int .i64 0,.int .i64 0,.int .i64 0,.int .i64 0,.int .i64 0,.int .i64 0,.int .i64 0,.int .i64 0,.int .i64 0] 103)).setRow w1.heap.size Hc=W2 at *
 clear hW2 hz2 h24 hone
 have HZW:Hid (ZeroW w W2 w.heap.size):=lH (xl1 HW.out.rh HW.out.rp HW.out.bel)
 by_cases he:er=0
 ·subst he
  obtain⟨hmX,hcX,_⟩:=HMY.out rfl
  have HSM:=lH (fun k=>xpH X k hmX hcX)
  have c0:=xaf HW.out.hd 0
  have c1:=xaf HW.out.hd 1
  have c2:=xaf HW.out.hd 2
  have c3:=xaf HW.out.hd 3
  have c4:=xaf HW.out.hd 4
  have c5:=xaf HW.out.hd 5
  have c6:=xaf HW.out.hd 6
  have c7:=xaf HW.out.hd 7
  simp[cH] at c0 c1 c2 c3 c4 c5 c6 c7
  go_wp2_with fail
  obtain⟨W3,hW3⟩:∃ W3,(W2.alloc (.cells #[.int .u64 X.rf,.int .u64 X.rl,.int .u64 X.mf,.int .u64 X.ml,.int .u64 X.lf,.int .u64 X.ll,.int .u64 X.df,.int .u64 X.dl] 216)).alloc (.cells #[.string { data:=#[] },.string { data:=#[] },.string { data:=#[] },.string { data:=#[] }] 125)=W3:=⟨_,rfl⟩
  have hlt5:w1.heap.size<W2.heap.size:=HW.out.hd.lt
  have g7:W3.heap[W2.heap.size]?=some (.cells (xgC X) 216 (0,0)):=by
   rw[← hW3]
   exact(xac (by simp)).trans (xa2 W2 _)
  have g8:xod W3 (W2.heap.size+1) (prA t X 0):=by
   have:=xa2 (W2.alloc (.cells #[.int .u64 X.rf,.int .u64 X.rl,.int .u64 X.mf,.int .u64 X.ml,.int .u64 X.lf,.int .u64 X.ll,.int .u64 X.df,.int .u64 X.dl] 216)) (.cells #[.string { data:=#[] },.string { data:=#[] },.string { data:=#[] },.string { data:=#[] }] 125)
   rw[World.size_alloc] at this
   rw[← hW3]
   exact this
  have hb3:Below W2.heap.size W2 W3:=by rw[← hW3];exact((Below.refl _ W2).alloc (Nat.le_refl _) _).alloc (by simp) _
  have HW3:=lH (HW.out.later hb3 hlt5)
  have G7:=lH g7
  have G8:=lH g8
  rw[hW3]
  clear hW3 g7 g8 hb3 c0 c1 c2 c3 c4 c5 c6 c7 HZW HW
  go_loopw [9] (fun i wr=>∃ k:Nat,k≤4∧i=.int .i64 k∧Hid (xod wr (W2.heap.size+1) (prA t X k))∧Hid (∀ j,j<k→¬ (t.size:Int)<frK X j+lnK X j)∧Hid (Below (W2.heap.size+1) W3 wr)) (fun i _=>4 - (intOf i).toNat)
  case atStart=>exact⟨0,by omega,rfl,G8,lH (fun j h=>by omega),lH (Below.refl _ _)⟩
  case round =>
   obtain⟨k,hk,rfl,HPR,HAL,HBW⟩:=hrel
   have HWr:=lH (HW3.out.later HBW.out (by omega))
   by_cases hk4:k<4
   ·have hki:(k:Int)<4:=by omega
    obtain⟨r0,r1⟩:=xqq ((HBW.out.block _ (by omega)).trans G7.out) k hk4
    have hpr:=HPR.out
    unfold xod at hpr
    have p0:wr.cell? ⟨W2.heap.size+1,k,none⟩=some (.string xbr):=by simp[World.cell?,hpr,xuA t X k hk4]
    have pf:∀ j,wr.frozen? ⟨W2.heap.size+1,j,none⟩=false:=fun j=>by simp[World.frozen?,hpr]
    obtain⟨m1,m2,m3⟩:=HSM.out k
    have hw4:IntKind.u64.wrap (frK X k+lnK X k)=frK X k+lnK X k:=by rw[IntKind.wrap_u64];omega
    have hw5:IntKind.u64.wrap (t.size:Int)=(t.size:Int):=by rw[IntKind.wrap_u64];omega
    have HBT:Hid (xkm t X k=t.extract (frK X k).toNat (frK X k+lnK X k).toNat):=lH (by unfold xkm xoq;rw[show (frK X k+lnK X k).toNat=(frK X k).toNat+(lnK X k).toNat by omega])
    by_cases ho:(t.size:Int)<frK X k+lnK X k
    ·have HO:=lH (HOUT.out (by simp) (xuJ hk4 ho))
     generalize frK X k=fr at *
     generalize lnK X k=ln at *
     have HZW:Hid (∀ n,ZeroW w (wr.drewN n) w.heap.size):=lH (fun n=>by
      have h:=HWr.out.later (B:=wr.heap.size) (W':=wr.drewN n) ⟨rfl,rfl,rfl,Nat.le_refl _,fun _ _=>rfl⟩ HWr.out.hd.lt
      exact xl1 h.rh h.rp h.bel)
     have z1:=fun n=>(HZW.out n).s1
     have z2:=fun n=>(HZW.out n).s2
     have HRE:Hid (R=.tuple #[.agg (cH xaa),.agg P4,.int .i64 8]):=lH (by rw[← HR.out,HO.out];rfl)
     clear hpr p0 pf
     go_wp2_with fail
     go_quiet (fail)
     go_wp2_with (first|(refine wpList_store_row rfl 103 _ _ rfl w.heap.size Z24 rfl rfl 103 Z24 (z1 _) xmm rfl xh9 ?_)|(refine wpList_store_row rfl 125 _ _ rfl (w.heap.size+1) P4 rfl rfl 125 P4 (z2 _) xie rfl xmk ?_)|fail)
     refine bodyPost_ret (xa3 rfl _ _ w.heap.size (w.heap.size+1) (cH xaa) P4 (.int .i64 8) rfl rfl rfl (xoo (HZW.out _).e1) (xib (HZW.out _).e2)) rfl ⟨by rw[HRE.out],(HZW.out _).e3⟩
    ·have HAL2:Hid (∀ j,j<k+1→¬ (t.size:Int)<frK X j+lnK X j):=lH (fun j hj=>by
      rcases Nat.lt_or_ge j k with h|h
      ·exact HAL.out j h
      ·obtain rfl:j=k:=by omega
       exact ho)
     have hs2:frK X k≤frK X k+lnK X k:=by omega
     have hs3:frK X k+lnK X k≤(t.size:Int):=by omega
     generalize frK X k=fr at *
     generalize lnK X k=ln at *
     clear hpr
     go_wp2_with fail
     go_quiet (fail)
     go_wp2_with fail
     go_region
     all_goals
      go_wp2_with fail
      go_roundw
      case rel =>
       refine⟨k+1,by omega,by simp,lH ?_,lH (fun j hj=>by have:=HAL2.out j hj;omega),lH ?_⟩
       ·have hpr:=HPR.out
        unfold xod at hpr
        have h:=hset (w:=wr.drewN (nq+1)) hpr k (.string (xkm t X k))
        rw[xqi t X k hk4,HBT.out] at h
        exact h
       ·have hbw:Below (W2.heap.size+1) W3 (wr.drewN (nq+1)):=HBW.out.trans ⟨rfl,rfl,rfl,Nat.le_refl _,fun _ _=>rfl⟩
        exact hbw.setCell (by simp) _
      case measure=>simp[intOf];omega
   ·obtain rfl:k=4:=by omega
    have hB:=HWr.out.later (B:=wr.heap.size) (W':=wr.drew) ⟨rfl,rfl,rfl,Nat.le_refl _,fun _ _=>rfl⟩ HWr.out.hd.lt
    have hPP:xod wr.drew (W2.heap.size+1) (prA t X 4):=HPR.out
    have HRE:Hid (R=.tuple #[.agg Hc,.agg (prA t X 4),.int .i64 0]):=lH (by
     rw[← HR.out,HOKK.out (by simp) (xqQ (fun j hj=>by have:=HAL.out j hj;omega)),← HK.out]
     rfl)
    have hlt2:=hB.lt
    have HFU:=lH (xty (X:=X) hB.rh hB.rp hB.bel (by omega) hPP)
    have hX0:wr.drew.heap[w1.heap.size]?=some (.cells (cH X) 103 (0,0)):=hB.hd
    have ho4:(prA t X 4).all (·.oneCell')=true:=by simp[prA,Value.oneCell']
    have hs4:(Tryz.prog.info? 125).map (·.size)=some (prA t X 4).size:=xev
    have h44:4=(prA t X 4).size:=rfl
    have hoX:(cH X).all (·.oneCell')=true:=xcl X
    have h24:24=(cH X).size:=rfl
    rw[HK.out] at HFU hX0 hoX h24
    generalize prA t X 4=P at *
    have H44:=lH h44
    have H24:=lH h24
    clear h44 h24
    clear HPR HAL HWr hB HW3 G7 G8 HBW
    go_wp2_with fail
    refine wp_region_any (by kernel_rfl) ?_
    change wpAny _ _ _ _ _ _ _ (World.drew _)
    refine wpAny_ready (rs:=[0,1]) (by kernel_rfl) (by simp) ?_
    refine AllReady.cons rfl (fun K hK=>?_) (AllReady.cons rfl (fun K hK=>?_) AllReady.nil)
    ·
     rw[if_pos (by rfl)]
     refine wp_load_row 103 _ rfl w1.heap.size rfl 103 Hc (0,0) _ hX0 Tryz.underlying103 rfl hsz (hK _ _ ?_)
     clear hK K
     try simp only[Act.put,zsA,zsB,zsC]
     refine wpAny_ready (rs:=[1,2]) (by kernel_rfl) (by simp) ?_
     refine AllReady.cons rfl (fun K hK=>?_) (AllReady.cons rfl (fun K hK=>?_) AllReady.nil)
     ·
      rw[if_pos (by rfl)]
      refine wp_load_row 125 _ rfl (W2.heap.size+1) rfl 125 P (0,0) _ HFU.out.p0 Tryz.underlying125 rfl hs4 (hK _ _ ?_)
      clear hK K
      try simp only[Act.put,zsA,zsB,zsC]
      refine wpAny_ready (rs:=[2]) (by kernel_rfl) (by simp) ?_
      refine AllReady.cons rfl (fun K hK=>?_) AllReady.nil
      rw[if_pos (by rfl)]
      refine wp_store_row 103 _ _ rfl w.heap.size Hc rfl rfl 103 Z24 HFU.out.s1 hsz H24.out hoX (hK _ _ ?_)
      clear hK K
      try simp only[Act.put,zsA,zsB,zsC]
      refine wpAny_ready (rs:=[3]) (by kernel_rfl) (by simp) ?_
      refine AllReady.cons rfl (fun K hK=>?_) AllReady.nil
      rw[if_pos (by rfl)]
      refine wp_store_row 125 _ _ rfl (w.heap.size+1) P rfl rfl 125 P4 HFU.out.s2 hs4 H44.out ho4 (hK _ _ ?_)
      clear hK K
      try simp only[Act.put,zsA,zsB,zsC]
      refine wpAny_ready (rs:=[4]) (by kernel_rfl) (by simp) ?_
      refine AllReady.cons rfl (fun K hK=>?_) AllReady.nil
      go_simp
      refine hK _ _ ?_
      clear hK K
      try simp only[Act.put,zsA,zsB,zsC]
      refine wpAny_done (by kernel_rfl) ?_ _
      go_wp2_with fail
      refine bodyPost_ret (xa3 rfl _ _ w.heap.size (w.heap.size+1) Hc P (.int .i64 0) rfl rfl rfl (run_loadVar_row _ _ _ _ Hc (0,0) _ HFU.out.e1 Tryz.underlying103 rfl hsz) (run_loadVar_row _ _ _ _ P (0,0) _ (HFU.out.e2 H44.out.symm) Tryz.underlying125 rfl hs4)) rfl ⟨by rw[HRE.out],HFU.out.e3⟩
     ·
      rw[if_pos (by rfl)]
      refine wp_store_row 103 _ _ rfl w.heap.size Hc rfl rfl 103 Z24 HFU.out.s1 hsz H24.out hoX (hK _ _ ?_)
      clear hK K
      try simp only[Act.put,zsA,zsB,zsC]
      refine wpAny_ready (rs:=[1]) (by kernel_rfl) (by simp) ?_
      refine AllReady.cons rfl (fun K hK=>?_) AllReady.nil
      rw[if_pos (by rfl)]
      refine wp_load_row 125 _ rfl (W2.heap.size+1) rfl 125 P (0,0) _ HFU.out.p1 Tryz.underlying125 rfl hs4 (hK _ _ ?_)
      clear hK K
      try simp only[Act.put,zsA,zsB,zsC]
      refine wpAny_ready (rs:=[3]) (by kernel_rfl) (by simp) ?_
      refine AllReady.cons rfl (fun K hK=>?_) AllReady.nil
      rw[if_pos (by rfl)]
      refine wp_store_row 125 _ _ rfl (w.heap.size+1) P rfl rfl 125 P4 HFU.out.s2 hs4 H44.out ho4 (hK _ _ ?_)
      clear hK K
      try simp only[Act.put,zsA,zsB,zsC]
      refine wpAny_ready (rs:=[4]) (by kernel_rfl) (by simp) ?_
      refine AllReady.cons rfl (fun K hK=>?_) AllReady.nil
      go_simp
      refine hK _ _ ?_
      clear hK K
      try simp only[Act.put,zsA,zsB,zsC]
      refine wpAny_done (by kernel_rfl) ?_ _
      go_wp2_with fail
      refine bodyPost_ret (xa3 rfl _ _ w.heap.size (w.heap.size+1) Hc P (.int .i64 0) rfl rfl rfl (run_loadVar_row _ _ _ _ Hc (0,0) _ HFU.out.e1 Tryz.underlying103 rfl hsz) (run_loadVar_row _ _ _ _ P (0,0) _ (HFU.out.e2 H44.out.symm) Tryz.underlying125 rfl hs4)) rfl ⟨by rw[HRE.out],HFU.out.e3⟩
    ·
     rw[if_pos (by rfl)]
     refine wp_load_row 125 _ rfl (W2.heap.size+1) rfl 125 P (0,0) _ HFU.out.p0 Tryz.underlying125 rfl hs4 (hK _ _ ?_)
     clear hK K
     try simp only[Act.put,zsA,zsB,zsC]
     refine wpAny_ready (rs:=[0]) (by kernel_rfl) (by simp) ?_
     refine AllReady.cons rfl (fun K hK=>?_) AllReady.nil
     rw[if_pos (by rfl)]
     refine wp_load_row 103 _ rfl w1.heap.size rfl 103 Hc (0,0) _ hX0 Tryz.underlying103 rfl hsz (hK _ _ ?_)
     clear hK K
     try simp only[Act.put,zsA,zsB,zsC]
     refine wpAny_ready (rs:=[2]) (by kernel_rfl) (by simp) ?_
     refine AllReady.cons rfl (fun K hK=>?_) AllReady.nil
     rw[if_pos (by rfl)]
     refine wp_store_row 103 _ _ rfl w.heap.size Hc rfl rfl 103 Z24 HFU.out.s1 hsz H24.out hoX (hK _ _ ?_)
     clear hK K
     try simp only[Act.put,zsA,zsB,zsC]
     refine wpAny_ready (rs:=[3]) (by kernel_rfl) (by simp) ?_
     refine AllReady.cons rfl (fun K hK=>?_) AllReady.nil
     rw[if_pos (by rfl)]
     refine wp_store_row 125 _ _ rfl (w.heap.size+1) P rfl rfl 125 P4 HFU.out.s2 hs4 H44.out ho4 (hK _ _ ?_)
     clear hK K
     try simp only[Act.put,zsA,zsB,zsC]
     refine wpAny_ready (rs:=[4]) (by kernel_rfl) (by simp) ?_
     refine AllReady.cons rfl (fun K hK=>?_) AllReady.nil
     go_simp
     refine hK _ _ ?_
     clear hK K
     try simp only[Act.put,zsA,zsB,zsC]
     refine wpAny_done (by kernel_rfl) ?_ _
     go_wp2_with fail
     refine bodyPost_ret (xa3 rfl _ _ w.heap.size (w.heap.size+1) Hc P (.int .i64 0) rfl rfl rfl (run_loadVar_row _ _ _ _ Hc (0,0) _ HFU.out.e1 Tryz.underlying103 rfl hsz) (run_loadVar_row _ _ _ _ P (0,0) _ (HFU.out.e2 H44.out.symm) Tryz.underlying125 rfl hs4)) rfl ⟨by rw[HRE.out],HFU.out.e3⟩
 ·have hC:=HBAD.out he
  have hen:(er != 0)=true:=by simpa using he
  have HRE:Hid (R=.tuple #[.agg (cH xaa),.agg P4,.int .i64 er]):=lH (by rw[← HR.out,hC];rfl)
  have z1:=HZW.out.s1
  have z2:=HZW.out.s2
  clear he hC
  go_wp2_with (first|(refine wpList_store_row rfl 103 _ _ rfl w.heap.size Z24 rfl rfl 103 Z24 z1 xmm rfl xh9 ?_)|(refine wpList_store_row rfl 125 _ _ rfl (w.heap.size+1) P4 rfl rfl 125 P4 z2 xie rfl xmk ?_)|fail)
  refine bodyPost_ret (xa3 rfl _ _ w.heap.size (w.heap.size+1) (cH xaa) P4 (.int .i64 er) rfl rfl rfl (xoo HZW.out.e1) (xib HZW.out.e2)) rfl ⟨by rw[HRE.out],HZW.out.e3⟩
structure CutWp (w W:World) (X:Hd) (b5:Nat):Prop where
 rh:HAt W w.heap.size 124 xaa
 rp:W.heap[w.heap.size+1]?=some (.cells #[.string xbr,.string xbr,.string xbr,.string xbr] 125 (0,0))
 hd:HAt W b5 124 X
 lt:w.heap.size+2≤b5
 bel:Below w.heap.size w W
theorem xit:(Tryz.prog.info? 124).map (·.size)=some Z24.size:=xaB
structure ZeroWp (w W:World) (b:Nat):Prop where
 s1:W.heap[b]?=some (.cells Z24 124 (0,0))
 s2:(W.setRow b Z24).heap[b+1]?=some (.cells P4 125 (0,0))
 e1:HAt ((W.setRow b Z24).setRow (b+1) P4) b 124 xaa
 e2:((W.setRow b Z24).setRow (b+1) P4).heap[b+1]?=some (.cells P4 125 (0,0))
 e3:Below w.heap.size w ((W.setRow b Z24).setRow (b+1) P4)
theorem xiv {w W:World} (h1:HAt W w.heap.size 124 xaa) (h2:W.heap[w.heap.size+1]?=some (.cells P4 125 (0,0))) (hb:Below w.heap.size w W):ZeroWp w W w.heap.size:=by
 have hz:cH xaa=Z24:=rfl
 have hp:=xeQ W w.heap.size 124 xaa xaa h1
 rw[hz] at hp
 have g2:(W.setRow w.heap.size Z24).heap[w.heap.size+1]?=some (.cells P4 125 (0,0)):=(hp.2.2.2 _ (by omega)).trans h2
 refine⟨h1,g2,(setRow_other _ _ _ _ (by omega)).trans hp.1,hrow g2 rfl,below_setRow (hp.2.2.1 _ _ (Nat.le_refl _) hb) (by omega) _⟩
structure FullWp (w W:World) (g:Nat) (Hc P:Array Value):Prop where
 s1:W.heap[w.heap.size]?=some (.cells Z24 124 (0,0))
 p0:W.heap[g]?=some (.cells P 125 (0,0))
 s2:(W.setRow w.heap.size Hc).heap[w.heap.size+1]?=some (.cells P4 125 (0,0))
 p1:(W.setRow w.heap.size Hc).heap[g]?=some (.cells P 125 (0,0))
 e1:((W.setRow w.heap.size Hc).setRow (w.heap.size+1) P).heap[w.heap.size]?=some (.cells Hc 124 (0,0))
 e2:P.size=4→((W.setRow w.heap.size Hc).setRow (w.heap.size+1) P).heap[w.heap.size+1]?=some (.cells P 125 (0,0))
 e3:Below w.heap.size w ((W.setRow w.heap.size Hc).setRow (w.heap.size+1) P)
theorem xoE {w W:World} {X:Hd} {g:Nat} {P:Array Value} (h1:HAt W w.heap.size 124 xaa) (h2:W.heap[w.heap.size+1]?=some (.cells P4 125 (0,0))) (hb:Below w.heap.size w W) (hg:w.heap.size+1<g)
  (hP:xod W g P):FullWp w W g (cH X) P:=by
 have hz:cH xaa=Z24:=rfl
 have hp:=xeQ W w.heap.size 124 xaa X h1
 have g2:(W.setRow w.heap.size (cH X)).heap[w.heap.size+1]?=some (.cells P4 125 (0,0)):=(hp.2.2.2 _ (by omega)).trans h2
 refine⟨h1,hP,g2,(hp.2.2.2 _ (by omega)).trans hP,(setRow_other _ _ _ _ (by omega)).trans hp.1,fun hs=>hrow g2 (by rw[hs];rfl),below_setRow (hp.2.2.1 _ _ (Nat.le_refl _) hb) (by omega) _⟩
theorem CutWp.later {w W W':World} {X:Hd} {b5 B:Nat} (h:CutWp w W X b5) (hb:Below B W W') (hB:b5<B):CutWp w W' X b5:=by
 have hl:=h.lt
 refine⟨(hb.block _ (by omega)).trans h.rh,(hb.block _ (by omega)).trans h.rp,(hb.block _ hB).trans h.hd,hl,h.bel.trans (hb.mono (by omega))⟩
theorem xmr {w:World} {g:Nat} {T:TypeId} {h:Hd} (H:HAt w g T h):(loadVar 124 ⟨g,0,none⟩).run Tryz.prog w=.ok (.agg (cH h)) w:=run_loadVar_row w g T _ (cH h) (0,0) _ H Tryz.underlying124 rfl xaB
theorem xpF (t:ByteArray) (w:World) (ht:t.size≤1000000):Calls Tryz.prog 52 #[.string t] w (xg3 (xa7 t) w):=by
 unfold xg3
 obtain⟨C,hC⟩:∃ C,xa7 t=C:=⟨_,rfl⟩
 have hbad:=fun h=>xqB (t:=t) h
 have hout:=fun X h ho=>xrH (t:=t) (X:=X) h ho
 have hok:=fun X h ho=>xul (t:=t) (X:=X) h ho
 have hmy:=fun X h=>xqO (xci t) X (xik t) h
 rw[hC] at hbad hout hok ⊢
 have HDC:=lH (fun X=>xn0 t X (by unfold maxLen;omega))
 obtain⟨D,hD⟩:∃ D,xcD (xci t)=D:=⟨_,rfl⟩
 rw[hD] at HDC hbad hout hok hmy
 obtain⟨X,er⟩:=D
 dsimp only at HDC hbad hout hok
 have HBAD:=lH hbad
 have HOUT:=lH (fun h=>hout X h)
 have HOKK:=lH (fun h=>hok X h)
 have HMY:=lH (fun h=>hmy X h)
 clear hbad hout hok hmy hD hC
 have HZ:=lH (HAt.made w xaa 124)
 generalize hk:cH X=Hc at *
 have HK:=lH hk
 clear hk
 obtain⟨R,hR⟩:∃ R:Value,(.tuple #[.agg (cH C.h),.agg (xfg C.p),.int .i64 C.err])=R:=⟨_,rfl⟩
 rw[hR]
 have HR:=lH hR
 clear hR
 go_enter Tryz.func52,Tryz.ntmps52
 go_wp2_with fail
 obtain⟨W0,hW0⟩:∃ W0,(w.alloc (.cells #[.int .u64 0,.int .u64 0,.int .u64 0,.int .u64 0,.int .u64 0,.int .u64 0,.int .u64 0,.int .u64 0,.int .u64 0,.int .u64 0,.int .u64 0,.bool false,.int .u8 0,.int .u8 0,.int .u8 0,.int .i64 0,.int .i64 0,.int .i64 0,.int .i64 0,.int .i64 0,.int .i64 0,.int .i64 0,.int .i64 0,.int .i64 0] 124)).alloc (.cells #[.string { data:=#[] },.string { data:=#[] },.string { data:=#[] },.string { data:=#[] }] 125)=W0:=⟨_,rfl⟩
 have r0:HAt W0 w.heap.size 124 xaa:=by
  rw[← hW0]
  exact(xac (by simp)).trans HZ.out
 have r1:W0.heap[w.heap.size+1]?=some (.cells #[.string xbr,.string xbr,.string xbr,.string xbr] 125 (0,0)):=by
  have:=xa2 (w.alloc (.cells #[.int .u64 0,.int .u64 0,.int .u64 0,.int .u64 0,.int .u64 0,.int .u64 0,.int .u64 0,.int .u64 0,.int .u64 0,.int .u64 0,.int .u64 0,.bool false,.int .u8 0,.int .u8 0,.int .u8 0,.int .i64 0,.int .i64 0,.int .i64 0,.int .i64 0,.int .i64 0,.int .i64 0,.int .i64 0,.int .i64 0,.int .i64 0] 124)) (.cells #[.string { data:=#[] },.string { data:=#[] },.string { data:=#[] },.string { data:=#[] }] 125)
  rw[World.size_alloc] at this
  rw[← hW0]
  exact this
 have rb:Below w.heap.size w W0:=by rw[← hW0];exact((Below.refl _ w).alloc (Nat.le_refl _) _).alloc (by simp) _
 have rz:w.heap.size+2≤W0.heap.size:=by rw[← hW0];simp
 rw[hW0]
 clear hW0
 refine(HDC.out _).mono ?_
 rintro e w1 ⟨rfl,hb1⟩
 have hz1:HAt (w1.alloc (.cells (cH xaa) 124)) w1.heap.size 124 xaa:=HAt.made w1 xaa _
 have hp:=xeQ (w1.alloc (.cells (cH xaa) 124)) w1.heap.size 124 xaa X hz1
 have hba:Below w1.heap.size w1 (w1.alloc (.cells (cH xaa) 124)):=(Below.refl _ _).alloc (Nat.le_refl _) _
 have hsz1:=hb1.size
 have HW:Hid (CutWp w ((w1.alloc (.cells (cH xaa) 124)).setRow w1.heap.size (cH X)) X w1.heap.size):=by
  have hb2:=hb1.trans (hba.mono hb1.size)
  refine lH ⟨hp.keep (r0.later hb2) (by omega),?_,hp.1,by omega,hp.2.2.1 _ _ (by omega) (rb.trans (hb2.mono rb.size))⟩
  refine(hp.2.2.2 _ (by omega)).trans ((hb2.block _ (by omega)).trans r1)
 have hz2:(w1.alloc (.cells #[.int .u64 0,.int .u64 0,.int .u64 0,.int .u64 0,.int .u64 0,.int .u64 0,.int .u64 0,.int .u64 0,.int .u64 0,.int .u64 0,.int .u64 0,.bool false,.int .u8 0,.int .u8 0,.int .u8 0,.int .i64 0,.int .i64 0,.int .i64 0,.int .i64 0,.int .i64 0,.int .i64 0,.int .i64 0,.int .i64 0,.int .i64 0] 124)).heap[w1.heap.size]?=some (.cells #[.int .u64 0,.int .u64 0,.int .u64 0,.int .u64 0,.int .u64 0,.int .u64 0,.int .u64 0,.int .u64 0,.int .u64 0,.int .u64 0,.int .u64 0,.bool false,.int .u8 0,.int .u8 0,.int .u8 0,.int .i64 0,.int .i64 0,.int .i64 0,.int .i64 0,.int .i64 0,.int .i64 0,.int .i64 0,.int .i64 0,.int .i64 0] 124 (0,0)):=hz1
 rw[HK.out] at HW
 have hsz:(Tryz.prog.info? 124).map (·.size)=some Hc.size:=by rw[← HK.out];exact xaB
 have h24:24=Hc.size:=by rw[← HK.out];rfl
 have hone:Hc.all (·.oneCell')=true:=by rw[← HK.out];exact xcl X
 clear hz1 hp hba hb1 r0 r1 rb rz
 go_upto_region 2 with (first|(refine wpList_store_row rfl 124 _ _ rfl w1.heap.size Hc rfl rfl 124 _ hz2 hsz h24 hone ?_)|fail)
 have hzz:cH xaa=Z24:=rfl
 rw[hzz] at HW
 unfold Z24 at HW
 generalize hW2:(w1.alloc (.cells #[.int .u64 0,.int .u64 0,.int .u64 0,.int .u64 0,.int .u64 0,.int .u64 0,.int .u64 0,.int .u64 0,.int .u64 0,.int .u64 0,.int .u64 0,.bool false,.int .u8 0,.int .u8 0,.int .u8 0,.int .i64 0,.int .i64 0,.int .i64 0,.int .i64 0,.int .i64 0,.int .i64 0,.int .i64 0,.int .i64 0,.int .i64 0] 124)).setRow w1.heap.size Hc=W2 at *
 clear hW2 hz2 h24 hone
 have HZW:Hid (ZeroWp w W2 w.heap.size):=lH (xiv HW.out.rh HW.out.rp HW.out.bel)
 by_cases he:er=0
 ·subst he
  obtain⟨hmX,hcX,_⟩:=HMY.out rfl
  have HSM:=lH (fun k=>xpH X k hmX hcX)
  go_upto_region 5 with fail
  obtain⟨W4,hW4⟩:∃ W4,W2.alloc (.cells #[.string { data:=#[] },.string { data:=#[] },.string { data:=#[] },.string { data:=#[] }] 125)=W4:=⟨_,rfl⟩
  have hlt5:w1.heap.size<W2.heap.size:=HW.out.hd.lt
  have g8:xod W4 W2.heap.size (prA t X 0):=by rw[← hW4];exact xa2 W2 _
  have hb4:Below W2.heap.size W2 W4:=by rw[← hW4];exact(Below.refl _ W2).alloc (Nat.le_refl _) _
  have hz4:W2.heap.size+1≤W4.heap.size:=by rw[← hW4];simp
  have HW4:=lH (HW.out.later hb4 hlt5)
  have G8:=lH g8
  have HLD:=HW4.out.hd
  unfold HAt at HLD
  rw[HK.out] at HLD
  have HLD:=lH HLD
  rw[hW4]
  clear hW4 g8 HZW HW
  have HSEC:=lH (fun W=>xn9 X W)
  rw[HK.out] at HSEC
  go_wp2_with (first|(refine wpList_load_row rfl 124 _ rfl w1.heap.size rfl 124 Hc (0,0) _ HLD.out Tryz.underlying124 rfl hsz ?_)|fail)
  refine(HSEC.out _).mono ?_
  rintro e W3 ⟨rfl,hb3⟩
  unfold xza
  have HW3:=lH (HW4.out.later hb3 (by omega))
  have G9:=G8.out
  unfold xod at G9
  have G9:=lH ((hb3.block _ (by omega)).trans G9)
  have hz3:W2.heap.size+1≤W3.heap.size:=Nat.le_trans hz4 hb3.size
  clear hb3 hb4 HW4 G8 HLD HSEC
  go_wp2_with fail
  go_loopw [22] (fun i wr=>∃ k:Nat,k≤4∧i=.int .i64 k∧Hid (xod wr W2.heap.size (prA t X k))∧Hid (∀ j,j<k→¬ (t.size:Int)<frK X j+lnK X j)∧Hid (Below W2.heap.size W3 wr)) (fun i _=>4 - (intOf i).toNat)
  case atStart=>exact⟨0,by omega,rfl,G9,lH (fun j h=>by omega),lH (Below.refl _ _)⟩
  case round =>
   obtain⟨k,hk,rfl,HPR,HAL,HBW⟩:=hrel
   have HWr:=lH (HW3.out.later HBW.out (by omega))
   have hgr:W2.heap.size<wr.heap.size:=by have h:=HPR.out;unfold xod at h;exact(Array.getElem?_eq_some_iff.1 h).1
   by_cases hk4:k<4
   ·have hd4:decide ((k:Int)<4)=true:=by simp;omega
    have hI:=fun W=>xtE X k hk4 W
    obtain⟨m1,m2,m3⟩:=HSM.out k
    have hw4:IntKind.u64.wrap (frK X k+lnK X k)=frK X k+lnK X k:=by rw[IntKind.wrap_u64];omega
    have hw5:IntKind.u64.wrap (t.size:Int)=(t.size:Int):=by rw[IntKind.wrap_u64];omega
    have HBT:Hid (xkm t X k=t.extract (frK X k).toNat (frK X k+lnK X k).toNat):=lH (by unfold xkm xoq;rw[show (frK X k+lnK X k).toNat=(frK X k).toNat+(lnK X k).toNat by omega])
    have HEN:=lH (fun W=>xaP (frK X k) (lnK X k) (frK X k+lnK X k) W hw4)
    by_cases ho:(t.size:Int)<frK X k+lnK X k
    ·have HO:=lH (HOUT.out (by simp) (xuJ hk4 ho))
     generalize frK X k=fr at *
     generalize lnK X k=ln at *
     have HRE:Hid (R=.tuple #[.agg (cH xaa),.agg P4,.int .i64 8]):=lH (by rw[← HR.out,HO.out];rfl)
     have hdo:decide ((t.size:Int)<fr+ln)=true:=by simpa using ho
     clear ho
     go_wp2_with fail
     refine(HEN.out _).mono ?_
     rintro e w5 ⟨rfl,rfl⟩
     have HZW:Hid (ZeroWp w ((wr.alloc (.cells #[.int .u64 fr,.int .u64 ln] 122)).alloc (.cells #[.int .u64 fr,.int .u64 ln] 122)) w.heap.size):=lH (by
      have h:=HWr.out.later (((Below.refl wr.heap.size wr).alloc (Nat.le_refl _) (.cells #[.int .u64 fr,.int .u64 ln] 122)).alloc (by simp) (.cells #[.int .u64 fr,.int .u64 ln] 122)) HWr.out.hd.lt
      exact xiv h.rh h.rp h.bel)
     have z1:=HZW.out.s1
     have z2:=HZW.out.s2
     generalize ((wr.alloc (.cells #[.int .u64 fr,.int .u64 ln] 122)).alloc (.cells #[.int .u64 fr,.int .u64 ln] 122))=wz at *
     go_wp2_with (first|(refine wpList_store_row rfl 124 _ _ rfl w.heap.size Z24 rfl rfl 124 Z24 z1 xit rfl xh9 ?_)|(refine wpList_store_row rfl 125 _ _ rfl (w.heap.size+1) P4 rfl rfl 125 P4 z2 xie rfl xmk ?_)|fail)
     refine bodyPost_ret (xa3 rfl _ _ w.heap.size (w.heap.size+1) (cH xaa) P4 (.int .i64 8) rfl rfl rfl (xmr HZW.out.e1) (xib HZW.out.e2)) rfl ⟨by rw[HRE.out],HZW.out.e3⟩
    ·have HAL2:Hid (∀ j,j<k+1→¬ (t.size:Int)<frK X j+lnK X j):=lH (fun j hj=>by
      rcases Nat.lt_or_ge j k with h|h
      ·exact HAL.out j h
      ·obtain rfl:j=k:=by omega
       exact ho)
     have hs2:frK X k≤frK X k+lnK X k:=by omega
     have hs3:frK X k+lnK X k≤(t.size:Int):=by omega
     have HCL:=lH (fun W=>xgY (t.extract (frK X k).toNat (frK X k+lnK X k).toNat) W (by rw[ByteArray.size_extract];omega))
     generalize frK X k=fr at *
     generalize lnK X k=ln at *
     have hdo:decide ((t.size:Int)<fr+ln)=false:=by simpa using ho
     have HP:=lH (fun(W:World) (hB:Below wr.heap.size wr W)=>(hB.block _ hgr).trans HPR.out)
     have HCE:=lH (fun(W:World) (hB:Below wr.heap.size wr W)=>(show W.cell? ⟨W2.heap.size,k,none⟩=some (.string xbr) by simp[World.cell?,HP.out W hB,xuA t X k hk4]))
     have HFE:=lH (fun(W:World) (hB:Below wr.heap.size wr W) (j:Nat)=>(show W.frozen? ⟨W2.heap.size,j,none⟩=false by simp[World.frozen?,HP.out W hB]))
     clear ho
     go_wp2_with fail
     refine(HEN.out _).mono ?_
     rintro e w5 ⟨rfl,rfl⟩
     go_wp2_with fail
     go_region_with (first|(refine(HEN.out _).mono ?_;rintro e w6 ⟨rfl,rfl⟩)|(refine(HCL.out _).mono ?_;rintro e w7 ⟨rfl,hb7⟩;have hbb:Below wr.heap.size wr w7:=(by go_grown:Below wr.heap.size wr _).trans (hb7.mono (by simp;omega));have p7:=HCE.out w7 hbb;have f7:=HFE.out w7 hbb))
     all_goals
      go_wp2_with fail
      go_roundw
      case rel =>
       refine⟨k+1,by omega,by simp,lH ?_,lH (fun j hj=>by have:=HAL2.out j hj;omega),lH ?_⟩
       ·have h:=hset (HP.out _ hbb) k (.string (xkm t X k))
        rw[xqi t X k hk4,HBT.out] at h
        exact h
       ·exact(HBW.out.trans (hbb.mono (by omega))).setCell (by simp) _
      case measure=>simp[intOf];omega
   ·obtain rfl:k=4:=by omega
    have hB:=HWr.out.later (B:=wr.heap.size) (W':=wr.drew) ⟨rfl,rfl,rfl,Nat.le_refl _,fun _ _=>rfl⟩ HWr.out.hd.lt
    have hPP:xod wr.drew W2.heap.size (prA t X 4):=HPR.out
    have HRE:Hid (R=.tuple #[.agg Hc,.agg (prA t X 4),.int .i64 0]):=lH (by
     rw[← HR.out,HOKK.out (by simp) (xqQ (fun j hj=>by have:=HAL.out j hj;omega)),← HK.out]
     rfl)
    have hlt2:=hB.lt
    have HFU:=lH (xoE (X:=X) hB.rh hB.rp hB.bel (by have:=HWr.out.lt;omega) hPP)
    have hX0:wr.drew.heap[w1.heap.size]?=some (.cells (cH X) 124 (0,0)):=hB.hd
    have ho4:(prA t X 4).all (·.oneCell')=true:=by simp[prA,Value.oneCell']
    have hs4:(Tryz.prog.info? 125).map (·.size)=some (prA t X 4).size:=xev
    have h44:4=(prA t X 4).size:=rfl
    have hoX:(cH X).all (·.oneCell')=true:=xcl X
    have h24:24=(cH X).size:=rfl
    rw[HK.out] at HFU hX0 hoX h24
    generalize prA t X 4=P at *
    have H44:=lH h44
    have H24:=lH h24
    clear h44 h24
    clear HPR HAL HWr hB HW3 G9 HBW
    go_wp2_with fail
    refine wp_region_any (by kernel_rfl) ?_
    change wpAny _ _ _ _ _ _ _ (World.drew _)
    refine wpAny_ready (rs:=[0,1]) (by kernel_rfl) (by simp) ?_
    refine AllReady.cons rfl (fun K hK=>?_) (AllReady.cons rfl (fun K hK=>?_) AllReady.nil)
    ·
     rw[if_pos (by rfl)]
     refine wp_load_row 124 _ rfl w1.heap.size rfl 124 Hc (0,0) _ hX0 Tryz.underlying124 rfl hsz (hK _ _ ?_)
     clear hK K
     try simp only[Act.put,zsA,zsB,zsC]
     refine wpAny_ready (rs:=[1,2]) (by kernel_rfl) (by simp) ?_
     refine AllReady.cons rfl (fun K hK=>?_) (AllReady.cons rfl (fun K hK=>?_) AllReady.nil)
     ·
      rw[if_pos (by rfl)]
      refine wp_load_row 125 _ rfl W2.heap.size rfl 125 P (0,0) _ HFU.out.p0 Tryz.underlying125 rfl hs4 (hK _ _ ?_)
      clear hK K
      try simp only[Act.put,zsA,zsB,zsC]
      refine wpAny_ready (rs:=[2]) (by kernel_rfl) (by simp) ?_
      refine AllReady.cons rfl (fun K hK=>?_) AllReady.nil
      rw[if_pos (by rfl)]
      refine wp_store_row 124 _ _ rfl w.heap.size Hc rfl rfl 124 Z24 HFU.out.s1 hsz H24.out hoX (hK _ _ ?_)
      clear hK K
      try simp only[Act.put,zsA,zsB,zsC]
      refine wpAny_ready (rs:=[3]) (by kernel_rfl) (by simp) ?_
      refine AllReady.cons rfl (fun K hK=>?_) AllReady.nil
      rw[if_pos (by rfl)]
      refine wp_store_row 125 _ _ rfl (w.heap.size+1) P rfl rfl 125 P4 HFU.out.s2 hs4 H44.out ho4 (hK _ _ ?_)
      clear hK K
      try simp only[Act.put,zsA,zsB,zsC]
      refine wpAny_ready (rs:=[4]) (by kernel_rfl) (by simp) ?_
      refine AllReady.cons rfl (fun K hK=>?_) AllReady.nil
      go_simp
      refine hK _ _ ?_
      clear hK K
      try simp only[Act.put,zsA,zsB,zsC]
      refine wpAny_done (by kernel_rfl) ?_ _
      go_wp2_with fail
      refine bodyPost_ret (xa3 rfl _ _ w.heap.size (w.heap.size+1) Hc P (.int .i64 0) rfl rfl rfl (run_loadVar_row _ _ _ _ Hc (0,0) _ HFU.out.e1 Tryz.underlying124 rfl hsz) (run_loadVar_row _ _ _ _ P (0,0) _ (HFU.out.e2 H44.out.symm) Tryz.underlying125 rfl hs4)) rfl ⟨by rw[HRE.out],HFU.out.e3⟩
     ·
      rw[if_pos (by rfl)]
      refine wp_store_row 124 _ _ rfl w.heap.size Hc rfl rfl 124 Z24 HFU.out.s1 hsz H24.out hoX (hK _ _ ?_)
      clear hK K
      try simp only[Act.put,zsA,zsB,zsC]
      refine wpAny_ready (rs:=[1]) (by kernel_rfl) (by simp) ?_
      refine AllReady.cons rfl (fun K hK=>?_) AllReady.nil
      rw[if_pos (by rfl)]
      refine wp_load_row 125 _ rfl W2.heap.size rfl 125 P (0,0) _ HFU.out.p1 Tryz.underlying125 rfl hs4 (hK _ _ ?_)
      clear hK K
      try simp only[Act.put,zsA,zsB,zsC]
      refine wpAny_ready (rs:=[3]) (by kernel_rfl) (by simp) ?_
      refine AllReady.cons rfl (fun K hK=>?_) AllReady.nil
      rw[if_pos (by rfl)]
      refine wp_store_row 125 _ _ rfl (w.heap.size+1) P rfl rfl 125 P4 HFU.out.s2 hs4 H44.out ho4 (hK _ _ ?_)
      clear hK K
      try simp only[Act.put,zsA,zsB,zsC]
      refine wpAny_ready (rs:=[4]) (by kernel_rfl) (by simp) ?_
      refine AllReady.cons rfl (fun K hK=>?_) AllReady.nil
      go_simp
      refine hK _ _ ?_
      clear hK K
      try simp only[Act.put,zsA,zsB,zsC]
      refine wpAny_done (by kernel_rfl) ?_ _
      go_wp2_with fail
      refine bodyPost_ret (xa3 rfl _ _ w.heap.size (w.heap.size+1) Hc P (.int .i64 0) rfl rfl rfl (run_loadVar_row _ _ _ _ Hc (0,0) _ HFU.out.e1 Tryz.underlying124 rfl hsz) (run_loadVar_row _ _ _ _ P (0,0) _ (HFU.out.e2 H44.out.symm) Tryz.underlying125 rfl hs4)) rfl ⟨by rw[HRE.out],HFU.out.e3⟩
    ·
     rw[if_pos (by rfl)]
     refine wp_load_row 125 _ rfl W2.heap.size rfl 125 P (0,0) _ HFU.out.p0 Tryz.underlying125 rfl hs4 (hK _ _ ?_)
     clear hK K
     try simp only[Act.put,zsA,zsB,zsC]
     refine wpAny_ready (rs:=[0]) (by kernel_rfl) (by simp) ?_
     refine AllReady.cons rfl (fun K hK=>?_) AllReady.nil
     rw[if_pos (by rfl)]
     refine wp_load_row 124 _ rfl w1.heap.size rfl 124 Hc (0,0) _ hX0 Tryz.underlying124 rfl hsz (hK _ _ ?_)
     clear hK K
     try simp only[Act.put,zsA,zsB,zsC]
     refine wpAny_ready (rs:=[2]) (by kernel_rfl) (by simp) ?_
     refine AllReady.cons rfl (fun K hK=>?_) AllReady.nil
     rw[if_pos (by rfl)]
     refine wp_store_row 124 _ _ rfl w.heap.size Hc rfl rfl 124 Z24 HFU.out.s1 hsz H24.out hoX (hK _ _ ?_)
     clear hK K
     try simp only[Act.put,zsA,zsB,zsC]
     refine wpAny_ready (rs:=[3]) (by kernel_rfl) (by simp) ?_
     refine AllReady.cons rfl (fun K hK=>?_) AllReady.nil
     rw[if_pos (by rfl)]
     refine wp_store_row 125 _ _ rfl (w.heap.size+1) P rfl rfl 125 P4 HFU.out.s2 hs4 H44.out ho4 (hK _ _ ?_)
     clear hK K
     try simp only[Act.put,zsA,zsB,zsC]
     refine wpAny_ready (rs:=[4]) (by kernel_rfl) (by simp) ?_
     refine AllReady.cons rfl (fun K hK=>?_) AllReady.nil
     go_simp
     refine hK _ _ ?_
     clear hK K
     try simp only[Act.put,zsA,zsB,zsC]
     refine wpAny_done (by kernel_rfl) ?_ _
     go_wp2_with fail
     refine bodyPost_ret (xa3 rfl _ _ w.heap.size (w.heap.size+1) Hc P (.int .i64 0) rfl rfl rfl (run_loadVar_row _ _ _ _ Hc (0,0) _ HFU.out.e1 Tryz.underlying124 rfl hsz) (run_loadVar_row _ _ _ _ P (0,0) _ (HFU.out.e2 H44.out.symm) Tryz.underlying125 rfl hs4)) rfl ⟨by rw[HRE.out],HFU.out.e3⟩
 ·have hC:=HBAD.out he
  have hen:(er != 0)=true:=by simpa using he
  have HRE:Hid (R=.tuple #[.agg (cH xaa),.agg P4,.int .i64 er]):=lH (by rw[← HR.out,hC];rfl)
  have z1:=HZW.out.s1
  have z2:=HZW.out.s2
  clear he hC
  go_wp2_with (first|(refine wpList_store_row rfl 124 _ _ rfl w.heap.size Z24 rfl rfl 124 Z24 z1 xit rfl xh9 ?_)|(refine wpList_store_row rfl 125 _ _ rfl (w.heap.size+1) P4 rfl rfl 125 P4 z2 xie rfl xmk ?_)|fail)
  refine bodyPost_ret (xa3 rfl _ _ w.heap.size (w.heap.size+1) (cH xaa) P4 (.int .i64 er) rfl rfl rfl (xmr HZW.out.e1) (xib HZW.out.e2)) rfl ⟨by rw[HRE.out],HZW.out.e3⟩
structure TwoW (w W:World) (Hc P:Array Value):Prop where
 s1:W.heap[w.heap.size]?=some (.cells Z24 124 (0,0))
 s2:(W.setRow w.heap.size Hc).heap[w.heap.size+1]?=some (.cells P4 125 (0,0))
 e1:((W.setRow w.heap.size Hc).setRow (w.heap.size+1) P).heap[w.heap.size]?=some (.cells Hc 124 (0,0))
 e2:((W.setRow w.heap.size Hc).setRow (w.heap.size+1) P).heap[w.heap.size+1]?=some (.cells P 125 (0,0))
 e3:Below w.heap.size w ((W.setRow w.heap.size Hc).setRow (w.heap.size+1) P)
 e4:w.heap.size+2≤((W.setRow w.heap.size Hc).setRow (w.heap.size+1) P).heap.size
theorem xx0 (w:World) (X:Hd) (p:Pt):TwoW w ((w.alloc (.cells Z24 124)).alloc (.cells P4 125)) (cH X) (xfg p):=by
 have hz:cH xaa=Z24:=rfl
 have h1:HAt ((w.alloc (.cells Z24 124)).alloc (.cells P4 125)) w.heap.size 124 xaa:=(xac (by simp)).trans (HAt.made w xaa _)
 have h2:((w.alloc (.cells Z24 124)).alloc (.cells P4 125)).heap[w.heap.size+1]?=some (.cells P4 125 (0,0)):=by
  have:=xa2 (w.alloc (.cells Z24 124)) (.cells P4 125)
  rw[World.size_alloc] at this
  exact this
 have hb:Below w.heap.size w ((w.alloc (.cells Z24 124)).alloc (.cells P4 125)):=((Below.refl _ w).alloc (Nat.le_refl _) _).alloc (by simp) _
 have hs:w.heap.size+2≤((w.alloc (.cells Z24 124)).alloc (.cells P4 125)).heap.size:=by simp
 generalize (w.alloc (.cells Z24 124)).alloc (.cells P4 125)=W at *
 have hp:=xeQ W w.heap.size 124 xaa X h1
 have g2:(W.setRow w.heap.size (cH X)).heap[w.heap.size+1]?=some (.cells P4 125 (0,0)):=(hp.2.2.2 _ (by omega)).trans h2
 have hb2:Below w.heap.size w ((W.setRow w.heap.size (cH X)).setRow (w.heap.size+1) (xfg p)):=below_setRow (hp.2.2.1 _ _ (Nat.le_refl _) hb) (by omega) _
 refine⟨h1,g2,(setRow_other _ _ _ _ (by omega)).trans hp.1,hrow g2 rfl,hb2,?_⟩
 simpa[World.setRow] using hs
end Go.Proofs.YtjinnigjfopbcaaGreatDoor
