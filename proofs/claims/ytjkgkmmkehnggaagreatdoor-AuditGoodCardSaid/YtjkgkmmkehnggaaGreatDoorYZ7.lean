/- Wq. -/
import Derived.Test.YtjkgkmmkehnggaaGreatDoorYs
import Derived.Test.YtjkgkmmkehnggaaGreatDoorYZ6
import Derived.Test.YtjkgkmmkehnggaaGreatDoorYZ3
set_option maxHeartbeats 16000000
namespace Go.Proofs.YtjkgkmmkehnggaaGreatDoor
set_option linter.unusedVariables false
set_option linter.unusedSimpArgs false
open Go.RowKit Go.Maps
set_option maxRecDepth 100000
structure StE (w W:World) (b g:Nat) (X:Hd) (R:List Int):Prop where
 brk:xbr W b R
 hd:HAt W g 93 X
 ne:b<w.heap.size∧w.heap.size≤g
 gr:w.grownBy W (some b)
theorem StE.below {w W W1:World} {b g:Nat} {X:Hd} {R:List Int} (h:StE w W b g X R) (hb:Below W.heap.size W W1):StE w W1 b g X R :=
 ⟨h.brk.below hb h.brk.lt,h.hd.later hb,h.ne,xbd h.gr hb⟩
theorem StE.asked {w W W1 W2:World} {b g:Nat} {X:Hd} {R R':List Int} (h:StE w W b g X R) (hb:Below W.heap.size W W1) (hg:W1.grownBy W2 (some b)) (hB:xbr W2 b R'):StE w W2 b g X R':=by
 have h1:=h.below hb
 refine⟨hB,?_,h.ne,Lib.grownBy_trans h1.gr hg⟩
 have hlt:=h1.hd.lt
 exact(hg.block g hlt (fun e=>by have:=Option.some.inj e;have:=h.ne;omega)).trans h1.hd
theorem xmY {W:World} {g:Nat} {T:TypeId} {X:Hd} (h:HAt W g T X):W.cell? ⟨g,8,none⟩=some (.int .u64 X.ad)∧W.cell? ⟨g,9,none⟩=some (.int .u64 X.en)∧W.cell? ⟨g,10,none⟩=some (.int .u64 X.co)∧W.cell? ⟨g,15,none⟩=some (.int .i64 X.z0)∧W.cell? ⟨g,16,none⟩=some (.int .i64 X.z1):=⟨at8 h,at9 h,xC6 h,xC4 h,xC8 h⟩
theorem xq6 (e a:En):xAs a e=(decide (e.id=laN a+1) && decide ((e.off,e.ln)=(a.off,a.ln))):=by
 unfold xAs
 congr 1
 rw[Bool.eq_iff_iff]
 simp
def xBg (b:Nat) (R:List Int) (X:Hd) (l:List En) (d:ByteArray) (w:World) (e:Ending) (w':World):Prop :=
 e=.returned (.tuple #[])∧∃ R',xbr w' b R'∧(∀ x,x ∈ R'↔x ∈ R∨x ∈ xbq 10 (xj6 X l d))∧w.grownBy w' (some b)
theorem xjO (b:Nat) (v:Value) (l:List En) (X:Hd) (d:ByteArray) (R:List Int) (w:World) (hB:xbr w b R) (hv:xam w v l) (hg:xeF l) (hl:l.length≤16777216) (hd:d.size≤1000000) (hR:R.length≤10000) :
  Calls Tryz.prog 46 #[.map (some b),v,.agg (cH X),.string d] w (xBg b R X l d w):=by
 have HV:=lH (fun W (hW:w.grownBy W (some b))=>hv.grown hW hB.map)
 have HG:=lH hg
 have hb0:Below w.heap.size w (w.alloc (.cells (cH X) 93)):=(Below.refl _ w).alloc (Nat.le_refl _) _
 have HS0:=lH (show StE w (w.alloc (.cells (cH X) 93)) b w.heap.size X R from ⟨hB.below hb0 hB.lt,HAt.made w X _,⟨hB.lt,Nat.le_refl _⟩,xbd (World.grownBy.refl _ _) hb0⟩)
 obtain⟨av,cv,rfl⟩:=xak hv
 have hw5:IntKind.u64.wrap (d.size:Int)=(d.size:Int):=by rw[IntKind.wrap_u64];omega
 have hw6:IntKind.u64.wrap (l.length:Int)=(l.length:Int):=by rw[IntKind.wrap_u64];omega
 unfold xBg
 clear hv hg hb0 hB
 go_enter Tryz.func46,Tryz.ntmps46
 go_wp2_with fail
 generalize hgg:w.heap.size=g at *
 have HGG:=lH hgg
 clear hgg
 go_loopw [8] (fun i wr=>∃ (k:Nat) (R':List Int),1≤k∧k≤max 1 l.length∧i=.int .i64 k∧R'.length≤R.length+2*k∧Hid (xky R l k R')∧Hid (StE w wr b g X R')) (fun i _=>l.length+1 - (intOf i).toNat)
 case atStart=>exact⟨1,R,Nat.le_refl _,by omega,rfl,by omega,lH (xky.start R l),HS0⟩
 case round =>
  clear HS0
  obtain⟨k,R',hk1,hk2,rfl,hRl,HI,HS⟩:=hrel
  by_cases hlt:k<l.length
  ·obtain⟨p,hp⟩:∃ p,p+1=k:=⟨k - 1,by omega⟩
   have hen:=HV.out wr HS.out.gr
   obtain⟨ga,off,cap,hv2,hle,hgl,hc⟩:=xh0 hen k hlt
   cases hv2
   obtain⟨k0,k1,k2,k3⟩:=hc k _ (xdZ l k hlt)
   obtain⟨p0,p1,p2,p3⟩:=hc p _ (xdZ l p (by omega))
   have ma:=HG.out.1 _ (xcO l p (by omega))
   have hck:=xhl _ (HG.out.2 _ (xcO l p (by omega)))
   have hst:=HI.out.step hk1
   rw[show k - 1=p by omega,xq6] at hst
   have hla:0≤laN (gS l p)∧laN (gS l p)<6004799503160661:=by
    have h1:=xhL (gS l p) ma.2.2.2.1
    have h2:laN (gS l p)=(gS l p).id+wdN (gS l p) - 1:=by unfold laN;rw[if_pos (HG.out.2 _ (xcO l p (by omega)))]
    unfold xa1 at ma
    omega
   have HL:=lH (fun W=>xes (gS l p) W ma)
   have HP1:=lH (fun W=>xfo (gS l k) W)
   have HP2:=lH (fun W=>xfo (gS l p) W)
   have hkl:(k:Int)<(l.length:Int):=by omega
   have hpl:(p:Int)<(l.length:Int):=by omega
   have hplN:p<l.length:=by omega
   have hpi:(k:Int) - 1=(p:Int):=by omega
   have hpw:IntKind.i64.wrap (p:Int)=(p:Int):=by rw[IntKind.wrap_i64];omega
   have hk0:(0:Int)≤(k:Int):=by omega
   have hp0:(0:Int)≤(p:Int):=by omega
   have HPK:=lH hp
   have HST:=lH hst
   clear hen hc ma hck hst hp
   generalize laN (gS l p)=la at *
   obtain⟨e,he⟩:∃ e,gS l k=e:=⟨_,rfl⟩
   obtain⟨a,ha⟩:∃ a,gS l p=a:=⟨_,rfl⟩
   rw[he] at k0 k1 k2 k3 HP1 HST
   rw[ha] at p0 p1 p2 p3 HP2 HL HST
   have HLA:=lH hla
   clear he ha hla
   obtain⟨e1,e2,e3,e4⟩:=e
   obtain⟨a1,a2,a3,a4⟩:=a
   unfold eC at HL HP1 HP2
   dsimp only at k0 k1 k2 k3 p0 p1 p2 p3 HL HP1 HP2 HST
   go_upto_region 4 with fail
   go_cut [9,10] from 15 to 51 (fun x y wx=>∃ g1 g2:Nat,x=.pointer (some ⟨g1,0,none⟩)∧y=.pointer (some ⟨g2,0,none⟩)∧Hid (EAt wx g1 ⟨e1,e2,e3,e4⟩)∧Hid (EAt wx g2 ⟨a1,a2,a3,a4⟩)∧wr.heap.size≤g1∧wr.heap.size≤g2∧Hid (Below wr.heap.size wr wx))
   case first =>
    go_region_with fail
    all_goals
     go_wp2_with fail
     go_meet
     case rel=>exact⟨_,_,rfl,rfl,lH ⟨by simp[go_sem],by simp[go_sem],by simp[go_sem],by simp[go_sem]⟩,lH ⟨by simp[go_sem],by simp[go_sem],by simp[go_sem],by simp[go_sem]⟩,by simp,by simp,lH (by go_grown)⟩
   case rest =>
    rename_i K hK
    refine hK _ _ ?_
    clear hK K k0 k1 k2 k3 p0 p1 p2 p3
    obtain⟨g1,g2,rfl,rfl,HE1,HE2,hg1,hg2,HBW⟩:=hcut
    generalize wc=w4 at *
    have hbl:=HS.out.brk.lt
    have n1:some g1≠some b:=fun e=>by have:=Option.some.inj e;omega
    have n2:some g2≠some b:=fun e=>by have:=Option.some.inj e;omega
    have N1:=lH n1
    have N2:=lH n2
    have HS4:=lH (HS.out.below HBW.out)
    obtain⟨q0,q1,q2,q3⟩:=HE1.out
    obtain⟨r0,r1,r2,r3⟩:=HE2.out
    dsimp only at q0 q1 q2 q3 r0 r1 r2 r3
    clear HS HBW hbl n1 n2 hg1 hg2
    go_wp2_with fail
    refine(HL.out _).mono ?_
    rintro x w5 ⟨rfl,hb5⟩
    have HS5:=lH (HS4.out.below hb5)
    have HE1':=lH (HE1.out.later hb5)
    have HE2':=lH (HE2.out.later hb5)
    have HA:=lH (xaZ b 10 (decide (e1≤la)) R' w5 HS5.out.brk (by omega) (by unfold maxLen;omega))
    clear q0 q1 q2 q3 r0 r1 r2 r3 hb5 HE1 HE2 HS4 HL
    obtain⟨q0,q1,q2,q3⟩:=HE1'.out
    obtain⟨r0,r1,r2,r3⟩:=HE2'.out
    dsimp only at q0 q1 q2 q3 r0 r1 r2 r3
    go_wp2_with fail
    refine HA.out.mono ?_
    rintro x w6 ⟨rfl,hB6,hg6⟩
    have HS6:=lH (HS5.out.asked (Below.refl _ _) hg6 hB6)
    have q0:=hg6.cell q0 N1.out
    have q1:=hg6.cell q1 N1.out
    have q2:=hg6.cell q2 N1.out
    have q3:=hg6.cell q3 N1.out
    have r0:=hg6.cell r0 N2.out
    have r1:=hg6.cell r1 N2.out
    have r2:=hg6.cell r2 N2.out
    have r3:=hg6.cell r3 N2.out
    have hrx:=xbm (decide (e1≤la)) 10 R'
    clear hB6 hg6 HA HS5 HE1' HE2'
    generalize xcW (decide (e1≤la)) 10 R'=RX at *
    have hla2:=HLA.out
    have hwl:IntKind.u64.wrap (la+1)=la+1:=by rw[IntKind.wrap_u64];omega
    clear hla2
    go_upto_region 7 with fail
    have hd0:=Below.drew (Below.refl w6.heap.size w6)
    have hC0:=hd0
    have HBK:=lH HS6.out.brk
    by_cases hid:e1=la+1
    ·have t1:(e1 == la+1)=true:=by simpa using hid
     have HST2:=HST.out
     rw[decide_eq_true hid,Bool.true_and] at HST2
     have heq:=fun w=>xiQ e2 e3 a2 a3 w
     generalize decide ((e2,e3)=(a2,a3))=c2 at *
     have HST3:=lH HST2
     clear HST2 HST hid
     refine wp_region_held_drew (S:=fun w'=>(w'.cell? ⟨g1,0,none⟩=some (.int .u64 e1)∧w'.cell? ⟨g1,1,none⟩=some (.int .u64 e2)∧w'.cell? ⟨g1,2,none⟩=some (.int .u32 e3)∧w'.cell? ⟨g1,3,none⟩=some (.int .u32 e4))∧(w'.cell? ⟨g2,0,none⟩=some (.int .u64 a1)∧w'.cell? ⟨g2,1,none⟩=some (.int .u64 a2)∧w'.cell? ⟨g2,2,none⟩=some (.int .u32 a3)∧w'.cell? ⟨g2,3,none⟩=some (.int .u32 a4))) (by kernel_rfl) ⟨⟨xaa hd0 q0,xaa hd0 q1,xaa hd0 q2,xaa hd0 q3⟩,⟨xaa hd0 r0,xaa hd0 r1,xaa hd0 r2,xaa hd0 r3⟩⟩ (fun hH0=>?_)
     refine tK 0 38 hH0 ?_
     refine tK 1 39 hH0 ?_
     refine tK 2 40 hH0 ?_
     refine tK 3 41 hH0 ?_
     refine tK 4 42 hH0 ?_
     refine tK 5 43 hH0 ?_
     refine tK 6 44 hH0 ?_
     refine tK 7 45 hH0 ?_
     refine tK 9 47 hH0 ?_
     refine wpAnyH_ready (rs:=[8]) (by kernel_rfl) (by simp) ?_
     refine AllReadyH.cons rfl (fun K hK=>?_) AllReadyH.nil
     go_simp
     refine(HP1.out _).mono ?_
     rintro e w1 ⟨rfl,hb⟩
     go_wp2_with fail
     refine hK.out _ _ (⟨⟨xaa hb hH0.1.1,xaa hb hH0.1.2.1,xaa hb hH0.1.2.2.1,xaa hb hH0.1.2.2.2⟩,⟨xaa hb hH0.2.1,xaa hb hH0.2.2.1,xaa hb hH0.2.2.2.1,xaa hb hH0.2.2.2.2⟩⟩) (fun hH1=>?_)
     have hC1:=hC0.trans (hb.mono hC0.size)
     clear hb hH0
     clear hK K
     try simp only[Act.put,zsA,zsB,zsC]
     refine wpAnyH_ready (rs:=[10]) (by kernel_rfl) (by simp) ?_
     refine AllReadyH.cons rfl (fun K hK=>?_) AllReadyH.nil
     go_simp
     refine(HP2.out _).mono ?_
     rintro e w2 ⟨rfl,hb⟩
     go_wp2_with fail
     refine hK.out _ _ (⟨⟨xaa hb hH1.1.1,xaa hb hH1.1.2.1,xaa hb hH1.1.2.2.1,xaa hb hH1.1.2.2.2⟩,⟨xaa hb hH1.2.1,xaa hb hH1.2.2.1,xaa hb hH1.2.2.2.1,xaa hb hH1.2.2.2.2⟩⟩) (fun hH2=>?_)
     have hC2:=hC1.trans (hb.mono hC1.size)
     clear hb hH1
     clear hK K
     try simp only[Act.put,zsA,zsB,zsC]
     refine tK 11 49 hH2 ?_
     refine tK 12 50 hH2 ?_
     refine wpAnyH_ready (rs:=[13]) (by kernel_rfl) (by simp) ?_
     refine AllReadyH.cons rfl (fun K hK=>?_) AllReadyH.nil
     go_simp
     refine(xaZ b 12 c2 RX _ (HBK.out.below hC2 HBK.out.lt) (by omega) (by unfold maxLen;omega)).mono ?_
     rintro e w3 ⟨rfl,hBx,hgx⟩
     go_wp2_with fail
     refine hK.out _ _ (⟨⟨hgx.cell hH2.1.1 N1.out,hgx.cell hH2.1.2.1 N1.out,hgx.cell hH2.1.2.2.1 N1.out,hgx.cell hH2.1.2.2.2 N1.out⟩,⟨hgx.cell hH2.2.1 N2.out,hgx.cell hH2.2.2.1 N2.out,hgx.cell hH2.2.2.2.1 N2.out,hgx.cell hH2.2.2.2.2 N2.out⟩⟩) (fun hH3=>?_)
     clear hH2
     clear hK K
     try simp only[Act.put,zsA,zsB,zsC]
     refine wpAnyH_done (by kernel_rfl) ?_ _
     have HS7:=lH (HS6.out.asked hC2 hgx hBx)
     have hl7:=xbm c2 12 RX
     clear hBx hgx
     go_wp2_with fail
     go_roundw
     case rel=>exact⟨k+1,_,by omega,by omega,by go_num,by omega,HST3,HS7⟩
     case measure=>simp[intOf];omega
    ·have t1:(e1 == la+1)=false:=by simpa using hid
     have HST2:=HST.out
     rw[decide_eq_false hid,Bool.false_and] at HST2
     have HST3:=lH HST2
     clear HST2 HST hid
     refine wp_region_held_drew (S:=fun w'=>(w'.cell? ⟨g1,0,none⟩=some (.int .u64 e1)∧w'.cell? ⟨g1,1,none⟩=some (.int .u64 e2)∧w'.cell? ⟨g1,2,none⟩=some (.int .u32 e3)∧w'.cell? ⟨g1,3,none⟩=some (.int .u32 e4))∧(w'.cell? ⟨g2,0,none⟩=some (.int .u64 a1)∧w'.cell? ⟨g2,1,none⟩=some (.int .u64 a2)∧w'.cell? ⟨g2,2,none⟩=some (.int .u32 a3)∧w'.cell? ⟨g2,3,none⟩=some (.int .u32 a4))) (by kernel_rfl) ⟨⟨xaa hd0 q0,xaa hd0 q1,xaa hd0 q2,xaa hd0 q3⟩,⟨xaa hd0 r0,xaa hd0 r1,xaa hd0 r2,xaa hd0 r3⟩⟩ (fun hH0=>?_)
     refine tK 0 38 hH0 ?_
     refine tK 1 39 hH0 ?_
     refine tK 2 40 hH0 ?_
     refine tK 3 41 hH0 ?_
     refine tK 4 42 hH0 ?_
     refine tK 5 43 hH0 ?_
     refine tK 6 44 hH0 ?_
     refine tU 7 45 hH0 ?_
     refine tU 9 47 hH0 ?_
     refine tU 8 46 hH0 ?_
     refine tU 10 48 hH0 ?_
     refine tU 11 49 hH0 ?_
     refine tK 12 50 hH0 ?_
     refine wpAnyH_ready (rs:=[13]) (by kernel_rfl) (by simp) ?_
     refine AllReadyH.cons rfl (fun K hK=>?_) AllReadyH.nil
     go_simp
     refine(xaZ b 12 false RX _ (HBK.out.below hC0 HBK.out.lt) (by omega) (by unfold maxLen;omega)).mono ?_
     rintro e w1 ⟨rfl,hBx,hgx⟩
     go_wp2_with fail
     refine hK.out _ _ (⟨⟨hgx.cell hH0.1.1 N1.out,hgx.cell hH0.1.2.1 N1.out,hgx.cell hH0.1.2.2.1 N1.out,hgx.cell hH0.1.2.2.2 N1.out⟩,⟨hgx.cell hH0.2.1 N2.out,hgx.cell hH0.2.2.1 N2.out,hgx.cell hH0.2.2.2.1 N2.out,hgx.cell hH0.2.2.2.2 N2.out⟩⟩) (fun hH1=>?_)
     clear hH0
     clear hK K
     try simp only[Act.put,zsA,zsB,zsC]
     refine wpAnyH_done (by kernel_rfl) ?_ _
     have HS7:=lH (HS6.out.asked hC0 hgx hBx)
     have hl7:=xbm false 12 RX
     clear hBx hgx
     go_wp2_with fail
     go_roundw
     case rel=>exact⟨k+1,_,by omega,by omega,by go_num,by omega,HST3,HS7⟩
     case measure=>simp[intOf];omega
  ·obtain hke:k=max 1 l.length:=by omega
   subst hke
   have hen:=HV.out wr HS.out.gr
   have hgl:=HG.out
   have HPL:=lH (xlm (.slice av l.length cv) l wr hen (by omega))
   have HEN:=lH (fun W (hb:Below wr.heap.size wr W)=>xvj (.slice av l.length cv) l W (hen.below hb) hgl.1 (by omega))
   have hcn:=xuB hgl.2
   have hdat:=xAP hgl (d.size:Int) (by omega)
   have HUI:=lH (fun h=>xAT (n:=(d.size:Int)) hgl.1 h)
   have hul:=(xf2 l).2.2
   obtain⟨ps,hps⟩:∃ ps,(xje l).map prE=ps:=⟨_,rfl⟩
   have hpl:ps.length=(xje l).length:=by rw[← hps,List.length_map]
   obtain⟨oc,hoc⟩:∃ oc,xeq d 0 [] ps=oc:=⟨_,rfl⟩
   rw[hps] at HPL HUI
   obtain⟨c14,h14⟩:∃ c,(!(decide (X.ad=xu9 l l.length) && (decide (X.en=(l.length:Int)) && decide (X.co=((xje l).length:Int)))))=c:=⟨_,rfl⟩
   obtain⟨c15,h15⟩:∃ c,(!(decide (X.z0=xtN l) && decide (X.z1=xvm l)))=c:=⟨_,rfl⟩
   have HEM:=lH (xCb (h:=X) (d:=d) (c13:=!oc) HI.out (fun _=>by rw[hps,hoc]) h14.symm h15.symm)
   rw[hdat] at HEM HUI
   rw[← hcn,← hpl] at h14
   obtain⟨RQ,hRQ⟩:∃ RQ,(if decide (enN l≤(d.size:Int))=true then xcW (!oc) 13 R' else R'++[11])=RQ:=⟨_,rfl⟩
   rw[hRQ] at HEM
   have hrq:RQ.length≤R'.length+1:=by
    rw[← hRQ]
    split
    ·exact xbm _ _ _
    ·simp
   have HRQ:=lH hRQ
   have HO:=lH hoc
   have H14:=lH h14
   have H15:=lH h15
   have hpsl:ps.length≤20000000:=by omega
   have hbl:=HS.out.ne
   have NG:=lH (show some g≠some b from fun e=>by have:=Option.some.inj e;omega)
   have hpw:IntKind.u64.wrap (ps.length:Int)=(ps.length:Int):=by rw[IntKind.wrap_u64];omega
   have HZM:=lH (fun W (hW:w.grownBy W (some b))=>xoL (.slice av l.length cv) l W (HV.out W hW) hgl.1 (by omega))
   have HCNT:=lH (fun W (hb:xam W (.slice av l.length cv) l)=>xpS (.slice av l.length cv) l W hb hgl.1 (by omega))
   generalize xlW l=cn at *
   generalize xtN l=lo at *
   generalize xvm l=hi at *
   generalize enN l=en at *
   clear hcn hdat hps hoc h14 h15 hRQ hen hgl hul hpl hbl
   go_wp2_with fail
   refine HPL.out.mono ?_
   rintro x w2 ⟨vq,rfl,hoq,hb2⟩
   have HS2:=lH (HS.out.below hb2)
   have HQ2:=lH hoq.pqAt
   obtain⟨aq,cq,rfl⟩:∃ a c,vq=.slice a ps.length c:=by obtain⟨a,c,e,_⟩:=hoq.pqAt;exact⟨a,c,e⟩
   have HB2:=lH hb2
   clear hoq hb2 HPL HS
   go_wp2_with fail
   refine(HEN.out _ HB2.out).mono ?_
   rintro x w3 ⟨rfl,hb3⟩
   have HS3:=lH (HS2.out.below hb3)
   have HQ3:=lH (HQ2.out.below hb3)
   have HA:=lH (xaZ b 11 (decide ((d.size:Int)<en)) R' w3 HS3.out.brk (by omega) (by unfold maxLen;omega))
   clear hb3 HEN HS2 HQ2 HB2
   go_wp2_with fail
   refine HA.out.mono ?_
   rintro x w4 ⟨rfl,hB4,hg4⟩
   have HS4:=lH (HS3.out.asked (Below.refl _ _) hg4 hB4)
   have HQ4:=lH (HQ3.out.grown hg4 HS3.out.brk.map)
   clear hB4 hg4 HA HS3 HQ3
   generalize hcd:decide ((d.size:Int)<en)=cd at *
   have HCD:=lH hcd
   clear hcd
   go_upto_if 62 with fail
   go_cut [] from 15 to 108 (fun wx=>Hid (StE w wx b g X RQ))
   case first =>
    cases cd with
    | false =>
     have hin:en≤(d.size:Int):=by have:=of_decide_eq_false HCD.out;omega
     have HON:=lH (xvZ (.slice aq ps.length cq) ps d w4 HQ4.out hpsl hd (HUI.out (decide_eq_true hin)))
     rw[HO.out] at HON
     have hRQ2:=HRQ.out
     rw[decide_eq_true hin,if_pos rfl] at hRQ2
     unfold xcW at HS4
     rw[if_neg (by simp)] at HS4
     have HR2:=lH hRQ2
     clear hRQ2 hin
     go_wp2_with fail
     refine HON.out.mono ?_
     rintro x w5 ⟨rfl,hb5⟩
     have HS5:=lH (HS4.out.below hb5)
     have HA:=lH (xaZ b 13 (!oc) R' w5 HS5.out.brk (by omega) (by unfold maxLen;omega))
     clear hb5 HS4 HON
     go_wp2_with fail
     refine HA.out.mono ?_
     rintro x w6 ⟨rfl,hB6,hg6⟩
     have HS6:=lH (HS5.out.asked (Below.refl _ _) hg6 hB6)
     clear hB6 hg6 HA HS5
     go_wp2_with fail
     go_meet
     case rel=>exact lH (by rw[← HR2.out];exact HS6.out)
    | true =>
     have hin:¬ en≤(d.size:Int):=by have:=of_decide_eq_true HCD.out;omega
     have hRQ2:=HRQ.out
     rw[decide_eq_false hin,if_neg (by simp)] at hRQ2
     unfold xcW at HS4
     rw[if_pos rfl] at HS4
     have HR2:=lH hRQ2
     clear hRQ2 hin
     go_wp2_with fail
     go_meet
     case rel=>exact lH (by rw[← HR2.out];exact HS4.out)
   case rest =>
    rename_i K hK
    refine hK _ _ ?_
    clear hK K
    have HSA:=hcut
    clear hcut
    generalize wc=w7 at *
    clear HS4 HQ4 HO HUI
    obtain⟨h8,h9,h10,h15c,h16c⟩:=xmY HSA.out.hd
    have hen:=HV.out w7 HSA.out.gr
    have HCN:=lH (fun W (hb:Below w7.heap.size w7 W)=>HCNT.out W (hen.below hb))
    have HBK:=lH HSA.out.brk
    have hrm:RQ.length<maxLen:=by unfold maxLen;omega
    clear hen h15c h16c
    go_upto_region 11 with fail
    go_cut [] from 15 to 108 (fun wx=>Hid (StE w wx b g X (xcW c14 14 RQ)))
    case first =>
     have hd0:=Below.drew (Below.refl w7.heap.size w7)
     have hC0:=hd0
     by_cases g1:X.ad=cn
     ·have t1:(X.ad != cn)=false:=by simpa using g1
      by_cases g2:X.en=(l.length:Int)
      ·have t2:(X.en != (l.length:Int))=false:=by simpa using g2
       by_cases g3:X.co=(ps.length:Int)
       ·have t3:(X.co != (ps.length:Int))=false:=by simpa using g3
        have HV14:Hid (false=c14):=lH (by rw[← H14.out];simp[g1,g2,g3])
        clear g1 g2 g3
        refine wp_region_held_drew (S:=fun w'=>w'.cell? ⟨g,8,none⟩=some (.int .u64 X.ad)∧w'.cell? ⟨g,9,none⟩=some (.int .u64 X.en)∧w'.cell? ⟨g,10,none⟩=some (.int .u64 X.co)) (by kernel_rfl) ⟨xaa hd0 h8,xaa hd0 h9,xaa hd0 h10⟩ (fun hH0=>?_)
        refine tK 0 69 hH0 ?_
        refine tK 1 70 hH0 ?_
        refine tK 2 71 hH0 ?_
        refine tK 3 72 hH0 ?_
        refine wpAnyH_ready (rs:=[4]) (by kernel_rfl) (by simp) ?_
        refine AllReadyH.cons rfl (fun K hK=>?_) AllReadyH.nil
        go_simp
        refine(HCN.out _ hC0).mono ?_
        rintro e w1 ⟨rfl,hb⟩
        go_wp2_with fail
        refine hK.out _ _ (⟨xaa hb hH0.1,xaa hb hH0.2.1,xaa hb hH0.2.2⟩) (fun hH1=>?_)
        have hC1:=hC0.trans (hb.mono hC0.size)
        clear hb hH0
        clear hK K
        try simp only[Act.put,zsA,zsB,zsC]
        refine tK 5 74 hH1 ?_
        refine tK 6 75 hH1 ?_
        refine tK 7 76 hH1 ?_
        refine tK 8 77 hH1 ?_
        refine tK 9 78 hH1 ?_
        refine tK 10 79 hH1 ?_
        refine tK 11 80 hH1 ?_
        refine tK 12 81 hH1 ?_
        refine tK 13 82 hH1 ?_
        refine tK 14 83 hH1 ?_
        refine tK 15 84 hH1 ?_
        refine tK 16 85 hH1 ?_
        refine tK 17 86 hH1 ?_
        refine tK 18 87 hH1 ?_
        refine tK 19 88 hH1 ?_
        refine tK 20 89 hH1 ?_
        refine tK 21 90 hH1 ?_
        refine wpAnyH_ready (rs:=[22]) (by kernel_rfl) (by simp) ?_
        refine AllReadyH.cons rfl (fun K hK=>?_) AllReadyH.nil
        go_simp
        refine(xaZ b 14 false RQ _ (HBK.out.below hC1 HBK.out.lt) (by omega) (by omega)).mono ?_
        rintro e w2 ⟨rfl,hBx,hgx⟩
        go_wp2_with fail
        refine hK.out _ _ (⟨hgx.cell hH1.1 NG.out,hgx.cell hH1.2.1 NG.out,hgx.cell hH1.2.2 NG.out⟩) (fun hH2=>?_)
        clear hH1
        clear hK K
        try simp only[Act.put,zsA,zsB,zsC]
        refine wpAnyH_done (by kernel_rfl) ?_ _
        go_wp2_with fail
        go_meet
        case rel=>exact lH (by have h:=HSA.out.asked hC1 hgx hBx;rw[← HV14.out];exact h)
       ·have t3:(X.co != (ps.length:Int))=true:=by simpa using g3
        have HV14:Hid (true=c14):=lH (by rw[← H14.out];simp[g1,g2,g3])
        clear g1 g2 g3
        refine wp_region_held_drew (S:=fun w'=>w'.cell? ⟨g,8,none⟩=some (.int .u64 X.ad)∧w'.cell? ⟨g,9,none⟩=some (.int .u64 X.en)∧w'.cell? ⟨g,10,none⟩=some (.int .u64 X.co)) (by kernel_rfl) ⟨xaa hd0 h8,xaa hd0 h9,xaa hd0 h10⟩ (fun hH0=>?_)
        refine tK 0 69 hH0 ?_
        refine tK 1 70 hH0 ?_
        refine tK 2 71 hH0 ?_
        refine tK 3 72 hH0 ?_
        refine wpAnyH_ready (rs:=[4]) (by kernel_rfl) (by simp) ?_
        refine AllReadyH.cons rfl (fun K hK=>?_) AllReadyH.nil
        go_simp
        refine(HCN.out _ hC0).mono ?_
        rintro e w1 ⟨rfl,hb⟩
        go_wp2_with fail
        refine hK.out _ _ (⟨xaa hb hH0.1,xaa hb hH0.2.1,xaa hb hH0.2.2⟩) (fun hH1=>?_)
        have hC1:=hC0.trans (hb.mono hC0.size)
        clear hb hH0
        clear hK K
        try simp only[Act.put,zsA,zsB,zsC]
        refine tK 5 74 hH1 ?_
        refine tK 6 75 hH1 ?_
        refine tK 7 76 hH1 ?_
        refine tK 8 77 hH1 ?_
        refine tK 9 78 hH1 ?_
        refine tK 10 79 hH1 ?_
        refine tK 11 80 hH1 ?_
        refine tK 12 81 hH1 ?_
        refine tK 13 82 hH1 ?_
        refine tK 14 83 hH1 ?_
        refine tK 15 84 hH1 ?_
        refine tK 16 85 hH1 ?_
        refine tK 17 86 hH1 ?_
        refine tK 18 87 hH1 ?_
        refine tK 19 88 hH1 ?_
        refine tK 20 89 hH1 ?_
        refine tK 21 90 hH1 ?_
        refine wpAnyH_ready (rs:=[22]) (by kernel_rfl) (by simp) ?_
        refine AllReadyH.cons rfl (fun K hK=>?_) AllReadyH.nil
        go_simp
        refine(xaZ b 14 true RQ _ (HBK.out.below hC1 HBK.out.lt) (by omega) (by omega)).mono ?_
        rintro e w2 ⟨rfl,hBx,hgx⟩
        go_wp2_with fail
        refine hK.out _ _ (⟨hgx.cell hH1.1 NG.out,hgx.cell hH1.2.1 NG.out,hgx.cell hH1.2.2 NG.out⟩) (fun hH2=>?_)
        clear hH1
        clear hK K
        try simp only[Act.put,zsA,zsB,zsC]
        refine wpAnyH_done (by kernel_rfl) ?_ _
        go_wp2_with fail
        go_meet
        case rel=>exact lH (by have h:=HSA.out.asked hC1 hgx hBx;rw[← HV14.out];exact h)
      ·have t2:(X.en != (l.length:Int))=true:=by simpa using g2
       have HV14:Hid (true=c14):=lH (by rw[← H14.out];simp[g1,g2])
       clear g1 g2
       refine wp_region_held_drew (S:=fun w'=>w'.cell? ⟨g,8,none⟩=some (.int .u64 X.ad)∧w'.cell? ⟨g,9,none⟩=some (.int .u64 X.en)∧w'.cell? ⟨g,10,none⟩=some (.int .u64 X.co)) (by kernel_rfl) ⟨xaa hd0 h8,xaa hd0 h9,xaa hd0 h10⟩ (fun hH0=>?_)
       refine tK 0 69 hH0 ?_
       refine tK 1 70 hH0 ?_
       refine tK 2 71 hH0 ?_
       refine tK 3 72 hH0 ?_
       refine wpAnyH_ready (rs:=[4]) (by kernel_rfl) (by simp) ?_
       refine AllReadyH.cons rfl (fun K hK=>?_) AllReadyH.nil
       go_simp
       refine(HCN.out _ hC0).mono ?_
       rintro e w1 ⟨rfl,hb⟩
       go_wp2_with fail
       refine hK.out _ _ (⟨xaa hb hH0.1,xaa hb hH0.2.1,xaa hb hH0.2.2⟩) (fun hH1=>?_)
       have hC1:=hC0.trans (hb.mono hC0.size)
       clear hb hH0
       clear hK K
       try simp only[Act.put,zsA,zsB,zsC]
       refine tK 5 74 hH1 ?_
       refine tK 6 75 hH1 ?_
       refine tK 7 76 hH1 ?_
       refine tK 8 77 hH1 ?_
       refine tK 9 78 hH1 ?_
       refine tK 10 79 hH1 ?_
       refine tK 11 80 hH1 ?_
       refine tK 12 81 hH1 ?_
       refine tK 13 82 hH1 ?_
       refine tK 14 83 hH1 ?_
       refine tU 15 84 hH1 ?_
       refine tU 16 85 hH1 ?_
       refine tU 17 86 hH1 ?_
       refine tU 18 87 hH1 ?_
       refine tU 19 88 hH1 ?_
       refine tU 20 89 hH1 ?_
       refine tK 21 90 hH1 ?_
       refine wpAnyH_ready (rs:=[22]) (by kernel_rfl) (by simp) ?_
       refine AllReadyH.cons rfl (fun K hK=>?_) AllReadyH.nil
       go_simp
       refine(xaZ b 14 true RQ _ (HBK.out.below hC1 HBK.out.lt) (by omega) (by omega)).mono ?_
       rintro e w2 ⟨rfl,hBx,hgx⟩
       go_wp2_with fail
       refine hK.out _ _ (⟨hgx.cell hH1.1 NG.out,hgx.cell hH1.2.1 NG.out,hgx.cell hH1.2.2 NG.out⟩) (fun hH2=>?_)
       clear hH1
       clear hK K
       try simp only[Act.put,zsA,zsB,zsC]
       refine wpAnyH_done (by kernel_rfl) ?_ _
       go_wp2_with fail
       go_meet
       case rel=>exact lH (by have h:=HSA.out.asked hC1 hgx hBx;rw[← HV14.out];exact h)
     ·have t1:(X.ad != cn)=true:=by simpa using g1
      have HV14:Hid (true=c14):=lH (by rw[← H14.out];simp[g1])
      clear g1
      refine wp_region_held_drew (S:=fun w'=>w'.cell? ⟨g,8,none⟩=some (.int .u64 X.ad)∧w'.cell? ⟨g,9,none⟩=some (.int .u64 X.en)∧w'.cell? ⟨g,10,none⟩=some (.int .u64 X.co)) (by kernel_rfl) ⟨xaa hd0 h8,xaa hd0 h9,xaa hd0 h10⟩ (fun hH0=>?_)
      refine tK 0 69 hH0 ?_
      refine tK 1 70 hH0 ?_
      refine tK 2 71 hH0 ?_
      refine tK 3 72 hH0 ?_
      refine wpAnyH_ready (rs:=[4]) (by kernel_rfl) (by simp) ?_
      refine AllReadyH.cons rfl (fun K hK=>?_) AllReadyH.nil
      go_simp
      refine(HCN.out _ hC0).mono ?_
      rintro e w1 ⟨rfl,hb⟩
      go_wp2_with fail
      refine hK.out _ _ (⟨xaa hb hH0.1,xaa hb hH0.2.1,xaa hb hH0.2.2⟩) (fun hH1=>?_)
      have hC1:=hC0.trans (hb.mono hC0.size)
      clear hb hH0
      clear hK K
      try simp only[Act.put,zsA,zsB,zsC]
      refine tK 5 74 hH1 ?_
      refine tK 6 75 hH1 ?_
      refine tU 7 76 hH1 ?_
      refine tU 8 77 hH1 ?_
      refine tU 9 78 hH1 ?_
      refine tU 10 79 hH1 ?_
      refine tU 11 80 hH1 ?_
      refine tU 12 81 hH1 ?_
      refine tK 13 82 hH1 ?_
      refine tK 14 83 hH1 ?_
      refine tU 15 84 hH1 ?_
      refine tU 16 85 hH1 ?_
      refine tU 17 86 hH1 ?_
      refine tU 18 87 hH1 ?_
      refine tU 19 88 hH1 ?_
      refine tU 20 89 hH1 ?_
      refine tK 21 90 hH1 ?_
      refine wpAnyH_ready (rs:=[22]) (by kernel_rfl) (by simp) ?_
      refine AllReadyH.cons rfl (fun K hK=>?_) AllReadyH.nil
      go_simp
      refine(xaZ b 14 true RQ _ (HBK.out.below hC1 HBK.out.lt) (by omega) (by omega)).mono ?_
      rintro e w2 ⟨rfl,hBx,hgx⟩
      go_wp2_with fail
      refine hK.out _ _ (⟨hgx.cell hH1.1 NG.out,hgx.cell hH1.2.1 NG.out,hgx.cell hH1.2.2 NG.out⟩) (fun hH2=>?_)
      clear hH1
      clear hK K
      try simp only[Act.put,zsA,zsB,zsC]
      refine wpAnyH_done (by kernel_rfl) ?_ _
      go_wp2_with fail
      go_meet
      case rel=>exact lH (by have h:=HSA.out.asked hC1 hgx hBx;rw[← HV14.out];exact h)
    case rest =>
     rename_i K hK
     refine hK _ _ ?_
     clear hK K
     have HSB:=hcut
     clear hcut
     generalize wc=w8 at *
     clear HSA HBK h8 h9 h10 HCN HCNT
     have HZ:=lH (HZM.out w8 HSB.out.gr)
     have hrb:=xbm c14 14 RQ
     clear HZM
     go_wp2_with fail
     refine HZ.out.mono ?_
     rintro x w9 ⟨rfl,hb9⟩
     have HSC:=lH (HSB.out.below hb9)
     obtain⟨-,-,-,h15c,h16c⟩:=xmY HSC.out.hd
     generalize xcW c14 14 RQ=RB at *
     have HA:=lH (fun c=>xaZ b 15 c RB w9 HSC.out.brk (by omega) (by unfold maxLen;omega))
     clear hb9 HSB HZ
     by_cases g1:X.z0=lo
     ·have t1:(X.z0 != lo)=false:=by simpa using g1
      by_cases g2:X.z1=hi
      ·have t2:(X.z1 != hi)=false:=by simpa using g2
       have HV15:Hid (false=c15):=lH (by rw[← H15.out];simp[g1,g2])
       clear g1 g2
       go_wp2_with fail
       refine(HA.out _).mono ?_
       rintro x w10 ⟨rfl,hB6,hg6⟩
       have HSD:=lH (HSC.out.asked (Below.refl _ _) hg6 hB6)
       rw[HV15.out] at HSD
       clear hB6 hg6
       go_wp2_with fail
       exact bodyPost_end (results_none rfl _ _ _) rfl ⟨rfl,_,HSD.out.brk,HEM.out,HSD.out.gr⟩
      ·have t2:(X.z1 != hi)=true:=by simpa using g2
       have HV15:Hid (true=c15):=lH (by rw[← H15.out];simp[g1,g2])
       clear g1 g2
       go_wp2_with fail
       refine(HA.out _).mono ?_
       rintro x w10 ⟨rfl,hB6,hg6⟩
       have HSD:=lH (HSC.out.asked (Below.refl _ _) hg6 hB6)
       rw[HV15.out] at HSD
       clear hB6 hg6
       go_wp2_with fail
       exact bodyPost_end (results_none rfl _ _ _) rfl ⟨rfl,_,HSD.out.brk,HEM.out,HSD.out.gr⟩
     ·have t1:(X.z0 != lo)=true:=by simpa using g1
      have HV15:Hid (true=c15):=lH (by rw[← H15.out];simp[g1])
      clear g1
      go_wp2_with fail
      refine(HA.out _).mono ?_
      rintro x w10 ⟨rfl,hB6,hg6⟩
      have HSD:=lH (HSC.out.asked (Below.refl _ _) hg6 hB6)
      rw[HV15.out] at HSD
      clear hB6 hg6
      go_wp2_with fail
      exact bodyPost_end (results_none rfl _ _ _) rfl ⟨rfl,_,HSD.out.brk,HEM.out,HSD.out.gr⟩
end Go.Proofs.YtjkgkmmkehnggaaGreatDoor
