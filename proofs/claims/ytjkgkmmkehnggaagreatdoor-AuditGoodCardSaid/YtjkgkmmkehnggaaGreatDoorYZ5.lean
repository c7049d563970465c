/- Wm Wn. -/
import Derived.Test.YtjkgkmmkehnggaaGreatDoorYs
import Derived.Test.YtjkgkmmkehnggaaGreatDoorYZ2
import Derived.Test.YtjkgkmmkehnggaaGreatDoorYb8
set_option maxHeartbeats 16000000
namespace Go.Proofs.YtjkgkmmkehnggaaGreatDoor
set_option linter.unusedVariables false
set_option linter.unusedSimpArgs false
open Go.RowKit
set_option maxRecDepth 20000
theorem xq9 {h:Hd} (hs:xcG h=true):h.rf+h.rl≤1099511627776∧h.mf+h.ml≤1099511627776∧h.lf+h.ll≤1099511627776∧h.df+h.dl≤1099511627776:=by
 unfold xcG xhf at hs
 simp only[Bool.and_eq_true,decide_eq_true_eq] at hs
 omega
theorem xvY (h:Hd) (k:Nat):enK h (k+1)=frK h k+lnK h k:=by unfold enK;rw[if_neg (by omega),Nat.add_sub_cancel]
theorem xtX {h:Hd} {n:Int} {k:Nat} (hk:k<4) (hn:frK h k≠enK h k):xep h n=false:=by
 rw[← Bool.not_eq_true]
 intro ht
 unfold xep at ht
 simp only[Bool.and_eq_true,decide_eq_true_eq] at ht
 apply hn
 obtain rfl|rfl|rfl|rfl:k=0∨k=1∨k=2∨k=3:=by omega
 ·exact ht.1
 ·exact ht.2.1
 ·exact ht.2.2.1
 ·exact ht.2.2.2.1
theorem xti {h:Hd} (n:Int) (ha:∀ j,j<4→frK h j=enK h j):xep h n=(enK h 4 == n):=by
 have a0:=ha 0 (by omega)
 have a1:=ha 1 (by omega)
 have a2:=ha 2 (by omega)
 have a3:=ha 3 (by omega)
 have b0:h.rf=127:=a0
 have b1:h.mf=h.rf+h.rl:=a1
 have b2:h.lf=h.mf+h.ml:=a2
 have b3:h.df=h.lf+h.ll:=a3
 have b4:enK h 4=h.df+h.dl:=rfl
 rw[b4]
 unfold xep
 rw[decide_eq_true b0,decide_eq_true b1,decide_eq_true b2,decide_eq_true b3]
 simp only[Bool.true_and]
 rw[Bool.eq_iff_iff,decide_eq_true_eq,beq_iff_eq]
set_option maxRecDepth 100000 in
theorem xoJ (h:Hd) (n:Int) (w:World) (hm:xeR h) (hs:xcG h=true):Calls Tryz.prog 41 #[.agg (cH h),.int .u64 n] w fun e w'=>e=.returned (.bool (xep h n))∧Below w.heap.size w w':=by
 obtain⟨b0,b1,b2,b3⟩:=xq9 hs
 have HW:Hid (∀ k,k<4→IntKind.u64.wrap (frK h k+lnK h k)=frK h k+lnK h k):=lH (fun k hk=>by
  unfold xeR U64 at hm
  obtain rfl|rfl|rfl|rfl:k=0∨k=1∨k=2∨k=3:=by omega
  ·show IntKind.u64.wrap (h.rf+h.rl)=h.rf+h.rl
   rw[IntKind.wrap_u64];omega
  ·show IntKind.u64.wrap (h.mf+h.ml)=h.mf+h.ml
   rw[IntKind.wrap_u64];omega
  ·show IntKind.u64.wrap (h.lf+h.ll)=h.lf+h.ll
   rw[IntKind.wrap_u64];omega
  ·show IntKind.u64.wrap (h.df+h.dl)=h.df+h.dl
   rw[IntKind.wrap_u64];omega)
 obtain⟨r,hr⟩:∃ r,xep h n=r:=⟨_,rfl⟩
 rw[hr]
 have HR:=lH hr
 clear hr hm hs b0 b1 b2 b3
 unfold cH
 go_enter Tryz.func41,Tryz.ntmps41
 go_wp2_with fail
 go_loopw [5,17] (fun e i wr=>∃ k:Nat,k≤4∧i=.int .i64 k∧e=.int .u64 (enK h k)∧Hid (∀ j,j<k→frK h j=enK h j)∧Below w.heap.size w wr) (fun _ i _=>4 - (intOf i).toNat)
 case atStart=>exact⟨0,by omega,rfl,rfl,lH (fun j hj=>by omega),by go_grown⟩
 case round =>
  obtain⟨k,hk,rfl,rfl,HA,hbw⟩:=hrel
  by_cases hk4:k<4
  ·have hd4:(k:Int)<4:=by omega
   have hI:=fun W=>xnh h k hk4 W
   have hw4:=HW.out k hk4
   have he:=xvY h k
   have HEN:=lH (fun W=>xmc (frK h k) (lnK h k) W)
   rw[hw4] at HEN
   have HE:=lH he
   by_cases hf:frK h k=enK h k
   ·have HA2:Hid (∀ j,j<k+1→frK h j=enK h j):=lH (fun j hj=>by
     rcases Nat.lt_or_ge j k with g|g
     ·exact HA.out j g
     ·obtain rfl:j=k:=by omega
      exact hf)
    generalize enK h k=z at *
    rw[hf] at hI HEN HE
    generalize lnK h k=ln at *
    have hne:(z != z)=false:=by simp
    clear hf hw4 he HA
    go_wp2_with fail
    refine(HEN.out _).mono ?_
    rintro e w1 ⟨rfl,hb⟩
    have HB:=lH (Below.trans (hbw.alloc hbw.size _) (hb.mono (by have:=hbw.size;simp;omega)))
    clear hb hbw HEN
    go_wp2_with fail
    go_roundw
    case rel=>exact⟨k+1,by omega,by go_num,by rw[HE.out],HA2,HB.out⟩
    case measure=>simp[intOf];omega
   ·have HRF:Hid (r=false):=lH (by rw[← HR.out];exact xtX hk4 hf)
    generalize enK h k=z at *
    generalize frK h k=fr at *
    generalize lnK h k=ln at *
    have hne:(fr != z)=true:=by simpa using hf
    have HB:=lH (hbw.alloc hbw.size (.cells #[.int .u64 fr,.int .u64 ln] 91))
    clear hf hw4 he HA hbw HEN HE
    go_wp2_with fail
    go_ret
    exact⟨xkY HRF.out.symm,HB.out⟩
  ·obtain rfl:k=4:=by omega
   have hF:(enK h 4 == n)=r:=by rw[← HR.out];exact(xti n (fun j hj=>HA.out j hj)).symm
   generalize enK h 4=z at *
   clear hk hk4
   go_wp2_with fail
   go_ret
   exact⟨xkY (by first|exact hF|rfl),hbw⟩
theorem xoL (v:Value) (l:List En) (w:World) (hv:xam w v l) (hm:xaT l) (hl:l.length≤20000000):Calls Tryz.prog 117 #[v] w fun e w'=>e=.returned (.tuple #[.int .i64 (xtN l),.int .i64 (xvm l)])∧Below w.heap.size w w':=by
 unfold xtN xvm
 by_cases h0:l=[]
 ·subst h0
  obtain⟨av,cv,rfl⟩:=xak hv
  rw[if_pos rfl,if_pos rfl]
  clear hv
  go_enter Tryz.func117,Tryz.ntmps117
  go_wp2_with fail
  exact bodyPost_ret (results_tmp2 rfl _ _ _) rfl ⟨rfl,Below.refl _ _⟩
 ·rw[if_neg h0,if_neg h0]
  have hpos:0<l.length:=List.length_pos_iff.2 h0
  obtain⟨a,cap,rfl,h1,h2,hc⟩:=hv
  obtain⟨m,hmm⟩:∃ m,l.length=m+1:=⟨l.length - 1,by omega⟩
  obtain⟨g,off,rfl,hg,c0,c1,c2,c3⟩:=hc 0 _ (xdZ l 0 hpos)
  obtain⟨g',off',he,hg',d0,d1,d2,d3⟩:=hc m _ (xdZ l m (by omega))
  simp only[Option.some.injEq,Addr.mk.injEq,and_true] at he
  obtain⟨rfl,rfl⟩:=he
  have m0:=hm _ (xcO l 0 hpos)
  have m1:=hm _ (xcO l m (by omega))
  rw[show l.length - 1=m by omega]
  have hla:0≤laN (gS l m):=by
   unfold xa1 at m1
   unfold laN
   split
   ·have:=xhL (gS l m) m1.2.2.2.1
    omega
   ·omega
  have HZ:=lH (fun W=>xgh (gS l 0).id m0.1.1 W)
  have HL:=lH (fun W=>xes (gS l m) W m1)
  have HZ2:=lH (fun W=>xgh (laN (gS l m)) hla W)
  clear m0 m1 hm hc h0 hla
  generalize laN (gS l m)=la at *
  generalize gS l 0=e0 at *
  generalize gS l m=e1 at *
  obtain⟨p1,p2,p3,p4⟩:=e0
  obtain⟨q1,q2,q3,q4⟩:=e1
  unfold eC at HL
  dsimp only at c0 c1 c2 c3 d0 d1 d2 d3 HL HZ ⊢
  have hmi:((l.length:Nat):Int) - 1=(m:Int):=by omega
  have hmw:IntKind.i64.wrap (m:Int)=(m:Int):=by rw[IntKind.wrap_i64];omega
  have hml:(m:Int)<(l.length:Int):=by omega
  have hm0:(0:Int)≤(m:Int):=by omega
  have h0l:(0:Int)<(l.length:Int):=by omega
  have hne:(((l.length:Nat):Int) == 0)=false:=by rw[beq_eq_false_iff_ne];omega
  simp only[Nat.zero_mul,Nat.add_zero] at c0 c1 c2 c3
  have HMM:=lH hmm
  clear c1 c2 c3 hmm
  go_enter Tryz.func117,Tryz.ntmps117
  go_upto_region 3 with fail
  refine wp_region_held_drew (S:=fun w'=>(w'.cell? ⟨g,off,none⟩=some (.int .u64 p1)∧w'.cell? ⟨g,off+m*4,none⟩=some (.int .u64 q1)∧w'.cell? ⟨g,off+m*4+1,none⟩=some (.int .u64 q2)∧w'.cell? ⟨g,off+m*4+2,none⟩=some (.int .u32 q3)∧w'.cell? ⟨g,off+m*4+3,none⟩=some (.int .u32 q4))∧Below w.heap.size w w') (by kernel_rfl) ⟨⟨c0,d0,d1,d2,d3⟩,Below.drew (Below.refl _ _)⟩ (fun hH0=>?_)
  refine tK 0 7 hH0 ?_
  refine tK 1 8 hH0 ?_
  refine tK 2 9 hH0 ?_
  refine tK 3 10 hH0 ?_
  refine tK 5 12 hH0 ?_
  refine tK 6 13 hH0 ?_
  refine tK 7 14 hH0 ?_
  refine tK 8 15 hH0 ?_
  refine tK 9 16 hH0 ?_
  refine tK 10 17 hH0 ?_
  refine wpAnyH_ready (rs:=[4]) (by kernel_rfl) (by simp) ?_
  refine AllReadyH.cons rfl (fun K hK=>?_) AllReadyH.nil
  go_simp
  refine(HZ.out _).mono ?_
  rintro e w1 ⟨rfl,rfl⟩
  go_wp2_with fail
  refine hK.out _ _ (hH0) (fun hH1=>?_)
  clear hK K
  try simp only[Act.put,zsA,zsB,zsC]
  refine wpAnyH_ready (rs:=[11]) (by kernel_rfl) (by simp) ?_
  refine AllReadyH.cons rfl (fun K hK=>?_) AllReadyH.nil
  go_simp
  refine(HL.out _).mono ?_
  rintro e w2 ⟨rfl,hb⟩
  go_wp2_with fail
  refine hK.out _ _ (⟨⟨xaa hb hH1.1.1,xaa hb hH1.1.2.1,xaa hb hH1.1.2.2.1,xaa hb hH1.1.2.2.2.1,xaa hb hH1.1.2.2.2.2⟩,hH1.2.trans (hb.mono hH1.2.size)⟩) (fun hH2=>?_)
  clear hb hH1
  clear hK K
  try simp only[Act.put,zsA,zsB,zsC]
  refine wpAnyH_ready (rs:=[12]) (by kernel_rfl) (by simp) ?_
  refine AllReadyH.cons rfl (fun K hK=>?_) AllReadyH.nil
  go_simp
  refine(HZ2.out _).mono ?_
  rintro e w3 ⟨rfl,rfl⟩
  go_wp2_with fail
  refine hK.out _ _ (hH2) (fun hH3=>?_)
  clear hK K
  try simp only[Act.put,zsA,zsB,zsC]
  refine tK 13 2 hH3 ?_
  refine tK 14 3 hH3 ?_
  refine wpAnyH_done (by kernel_rfl) ?_ _
  go_wp2_with fail
  exact bodyPost_ret (results_tmp2 rfl _ _ _) rfl ⟨rfl,hH3.2⟩
def xls (o:Option (List En)) (w:World) (e:Ending) (w':World):Prop :=
 ∃ v,e=.returned (.tuple #[v,.bool o.isSome])∧xa5 w' w.heap.size 147 v (o.getD [])∧Below w.heap.size w w'
theorem xqS (e:En) (d:ByteArray) (w:World) (hm:xa1 e) (hck:ckN e=0) (hd:d.size≤1000000):Calls Tryz.prog 109 #[.agg (eC e),.string d] w (xls (xfm e d) w):=by
 have hco:=xhl e hck
 have hmn:=hm
 unfold xa1 at hmn
 have w1:IntKind.u64.wrap e.ln=e.ln:=by rw[IntKind.wrap_u64];omega
 have w2:IntKind.u64.wrap (e.off+e.ln)=e.off+e.ln:=by rw[IntKind.wrap_u64];omega
 have w3:IntKind.u64.wrap (d.size:Int)=(d.size:Int):=by rw[IntKind.wrap_u64];omega
 have o0:0≤e.off:=hmn.2.1.1
 have o1:e.off≤e.off+e.ln:=by omega
 have HEA:=lH (EAt.made w e 147)
 have HB0:=lH (show Below w.heap.size w (w.alloc (.cells (eC e) 147)) from (Below.refl _ _).alloc (Nat.le_refl _) _)
 unfold xls
 obtain⟨D,hD⟩:∃ D,xco (xwm e d)=D:=⟨_,rfl⟩
 have HDC:=lH (fun W=>xjM (d.extract e.off.toNat (e.off+e.ln).toNat) W (by rw[ByteArray.size_extract];unfold maxLen;omega))
 have hbit:(d.extract e.off.toNat (e.off+e.ln).toNat).data.toList=xwm e d:=rfl
 rw[hbit,hD] at HDC
 obtain⟨O,hO⟩:∃ O,xfm e d=O:=⟨_,rfl⟩
 rw[hO]
 unfold xfm at hO
 rw[hD] at hO
 unfold eC at HB0
 unfold xkN at HDC
 clear hm hck hco hmn hbit hD
 obtain⟨e1,e2,e3,e4⟩:=e
 unfold eC
 dsimp only at w1 w2 w3 o0 o1 HEA HB0 HDC hO
 obtain⟨n,hn⟩:∃ n,e2+e3=n:=⟨_,rfl⟩
 rw[hn] at w2 o1 HDC hO
 have HN:=lH hn
 by_cases h1:(d.size:Int)<n
 ·rw[if_pos h1] at hO
  subst hO
  have g1:decide ((d.size:Int)<n)=true:=decide_eq_true h1
  clear h1 HDC HEA
  have w2':IntKind.u64.wrap (e2+e3)=n:=by rw[hn,w2]
  clear hn
  go_enter Tryz.func109,Tryz.ntmps109
  go_wp2_with fail
  exact bodyPost_ret (results_tmp2 rfl _ _ _) rfl ⟨_,rfl,xbw _ _ _,HB0.out⟩
 rw[if_neg h1] at hO
 have g1:decide ((d.size:Int)<n)=false:=decide_eq_false h1
 have o2:n≤(d.size:Int):=by omega
 have w2':IntKind.u64.wrap (e2+e3)=n:=by rw[hn,w2]
 clear h1 hn
 have HO:=lH hO
 clear hO
 go_enter Tryz.func109,Tryz.ntmps109
 obtain⟨k0,k1,k2,k3⟩:=HEA.out
 dsimp only at k0 k1 k2 k3
 go_wp2_with fail
 refine(HDC.out _).mono ?_
 rintro x w4 ⟨v',rfl,ho,hb⟩
 have HC:=lH (And.intro (xaa hb (show (w.alloc (.cells #[.int .u64 e1,.int .u64 e2,.int .u32 e3,.int .u32 e4] 147)).cell? ⟨w.heap.size,0,none⟩=some (.int .u64 e1) by simp[go_sem])) (HB0.out.trans (hb.mono HB0.out.size)))
 have HOW:=lH (ho.mono HB0.out.size)
 obtain⟨l,m,z⟩:=D
 dsimp only at HO HOW ho ⊢
 obtain⟨av,cv,rfl⟩:=xak ho.ensAt
 have HEN:=lH ho.ensAt
 clear k0 k1 k2 k3 hb ho HDC HEA HB0
 by_cases h2:z=0
 ·subst h2
  have hO:=HO.out
  rw[if_neg (by simp)] at hO
  cases l with
  | nil =>
   rw[if_pos (.inl rfl)] at hO
   subst hO
   clear HO
   go_upto_region 5 with fail
   refine wp_region_held_drew (S:=fun w'=>w'.cell? ⟨w.heap.size,0,none⟩=some (.int .u64 e1)∧Below w.heap.size w w') (by kernel_rfl) ⟨xaa (Below.drew (Below.refl _ _)) HC.out.1,Below.drew HC.out.2⟩ (fun hH0=>?_)
   refine tK 0 31 hH0 ?_
   refine tK 1 32 hH0 ?_
   refine tK 2 33 hH0 ?_
   refine tK 3 34 hH0 ?_
   refine tK 4 35 hH0 ?_
   refine tK 5 36 hH0 ?_
   refine tK 6 37 hH0 ?_
   refine tK 7 38 hH0 ?_
   refine tU 8 39 hH0 ?_
   refine tU 9 40 hH0 ?_
   refine tU 10 41 hH0 ?_
   refine tU 11 42 hH0 ?_
   refine tU 12 43 hH0 ?_
   refine tU 13 44 hH0 ?_
   refine tU 14 45 hH0 ?_
   refine tK 15 46 hH0 ?_
   refine wpAnyH_done (by kernel_rfl) ?_ _
   go_wp2_with fail
   exact bodyPost_ret (results_tmp2 rfl _ _ _) rfl ⟨_,rfl,xbw _ _ _,hH0.2⟩
  | cons x r =>
   obtain⟨g,off,cap,hv2,hle,hg,hc⟩:=xh0 HEN.out 0 (by simp)
   injection hv2 with ha hb2 hc2
   subst ha hc2
   obtain⟨c0,-,-,-⟩:=hc 0 x rfl
   simp only[Nat.zero_mul,Nat.add_zero] at c0
   have hnl:(((x :: r).length:Nat):Int)=(r.length:Int)+1:=by simp
   have hne:((((x :: r).length:Nat):Int) == 0)=false:=by rw[beq_eq_false_iff_ne,hnl];omega
   have hlt:(0:Int)<(((x :: r).length:Nat):Int):=by rw[hnl];omega
   have hltN:0<(x :: r).length:=by simp
   have hg0:gS (x :: r) 0=x:=rfl
   rw[hg0] at hO
   clear hc hg0 hnl hb2
   by_cases h3:x.id=e1
   ·rw[if_neg (by simp[h3])] at hO
    subst hO
    have t3:(x.id != e1)=false:=by simpa using h3
    obtain⟨x1,x2,x3,x4⟩:=x
    dsimp only at c0 t3 h3
    clear HO h3
    generalize hL:(⟨x1,x2,x3,x4⟩:En) :: r=L at *
    have HLL:=lH hL
    clear hL
    go_upto_region 5 with fail
    refine wp_region_held_drew (S:=fun w'=>(w'.cell? ⟨w.heap.size,0,none⟩=some (.int .u64 e1)∧w'.cell? ⟨g,off,none⟩=some (.int .u64 x1))∧Below w.heap.size w w') (by kernel_rfl) ⟨⟨xaa (Below.drew (Below.refl _ _)) HC.out.1,xaa (Below.drew (Below.refl _ _)) c0⟩,Below.drew HC.out.2⟩ (fun hH0=>?_)
    refine tK 0 31 hH0 ?_
    refine tK 1 32 hH0 ?_
    refine tK 2 33 hH0 ?_
    refine tK 3 34 hH0 ?_
    refine tK 4 35 hH0 ?_
    refine tK 5 36 hH0 ?_
    refine tK 6 37 hH0 ?_
    refine tK 7 38 hH0 ?_
    refine tK 8 39 hH0 ?_
    refine tK 9 40 hH0 ?_
    refine tK 10 41 hH0 ?_
    refine tK 11 42 hH0 ?_
    refine tK 12 43 hH0 ?_
    refine tK 13 44 hH0 ?_
    refine tK 14 45 hH0 ?_
    refine tK 15 46 hH0 ?_
    refine wpAnyH_done (by kernel_rfl) ?_ _
    go_wp2_with fail
    exact bodyPost_ret (results_tmp2 rfl _ _ _) rfl ⟨_,rfl,(by rw[show ((some ((⟨x1,x2,x3,x4⟩:En) :: r)).getD [])=L from HLL.out];exact HOW.out.below (Below.drew (Below.refl _ _))),hH0.2⟩
   ·rw[if_pos (.inr h3)] at hO
    subst hO
    have t3:(x.id != e1)=true:=by simpa using h3
    obtain⟨x1,x2,x3,x4⟩:=x
    dsimp only at c0 t3 h3
    clear HO h3
    generalize hL:(⟨x1,x2,x3,x4⟩:En) :: r=L at *
    have HLL:=lH hL
    clear hL
    go_upto_region 5 with fail
    refine wp_region_held_drew (S:=fun w'=>(w'.cell? ⟨w.heap.size,0,none⟩=some (.int .u64 e1)∧w'.cell? ⟨g,off,none⟩=some (.int .u64 x1))∧Below w.heap.size w w') (by kernel_rfl) ⟨⟨xaa (Below.drew (Below.refl _ _)) HC.out.1,xaa (Below.drew (Below.refl _ _)) c0⟩,Below.drew HC.out.2⟩ (fun hH0=>?_)
    refine tK 0 31 hH0 ?_
    refine tK 1 32 hH0 ?_
    refine tK 2 33 hH0 ?_
    refine tK 3 34 hH0 ?_
    refine tK 4 35 hH0 ?_
    refine tK 5 36 hH0 ?_
    refine tK 6 37 hH0 ?_
    refine tK 7 38 hH0 ?_
    refine tK 8 39 hH0 ?_
    refine tK 9 40 hH0 ?_
    refine tK 10 41 hH0 ?_
    refine tK 11 42 hH0 ?_
    refine tK 12 43 hH0 ?_
    refine tK 13 44 hH0 ?_
    refine tK 14 45 hH0 ?_
    refine tK 15 46 hH0 ?_
    refine wpAnyH_done (by kernel_rfl) ?_ _
    go_wp2_with fail
    exact bodyPost_ret (results_tmp2 rfl _ _ _) rfl ⟨_,rfl,xbw _ _ _,hH0.2⟩
 ·have hO:=HO.out
  rw[if_pos h2] at hO
  subst hO
  have t1:(z != 0)=true:=by simpa using h2
  clear HO h2
  go_upto_region 5 with fail
  refine wp_region_held_drew (S:=fun w'=>w'.cell? ⟨w.heap.size,0,none⟩=some (.int .u64 e1)∧Below w.heap.size w w') (by kernel_rfl) ⟨xaa (Below.drew (Below.refl _ _)) HC.out.1,Below.drew HC.out.2⟩ (fun hH0=>?_)
  refine tK 0 31 hH0 ?_
  refine tK 1 32 hH0 ?_
  refine tK 2 33 hH0 ?_
  refine tU 3 34 hH0 ?_
  refine tU 4 35 hH0 ?_
  refine tU 5 36 hH0 ?_
  refine tK 6 37 hH0 ?_
  refine tK 7 38 hH0 ?_
  refine tU 8 39 hH0 ?_
  refine tU 9 40 hH0 ?_
  refine tU 10 41 hH0 ?_
  refine tU 11 42 hH0 ?_
  refine tU 12 43 hH0 ?_
  refine tU 13 44 hH0 ?_
  refine tU 14 45 hH0 ?_
  refine tK 15 46 hH0 ?_
  refine wpAnyH_done (by kernel_rfl) ?_ _
  go_wp2_with fail
  exact bodyPost_ret (results_tmp2 rfl _ _ _) rfl ⟨_,rfl,xbw _ _ _,hH0.2⟩
end Go.Proofs.YtjkgkmmkehnggaaGreatDoor
namespace Go.Proofs.YtjkgkmmkehnggaaGreatDoor
set_option linter.unusedVariables false
set_option linter.unusedSimpArgs false
open Go.RowKit Go.Maps
set_option maxRecDepth 20000
def xcW (c:Bool) (x:Int) (R:List Int):List Int:=if c=true then R++[x] else R
def xkC (b:Nat) (c:Bool) (x:Int) (R:List Int) (w:World) (e:Ending) (w':World):Prop:=e=.returned (.bool c)∧xbr w' b (xcW c x R)∧w.grownBy w' (some b)
theorem xaZ (b:Nat) (x:Int) (c:Bool) (R:List Int) (w:World) (hB:xbr w b R) (hx:0≤x∧x≤255) (hn:R.length<maxLen):Calls Tryz.prog 39 #[.map (some b),.int .u8 x,.bool c] w (xkC b c x R w):=by
 unfold xkC xcW
 cases c with
 | false =>
  rw[if_neg (by simp)]
  have HB:=lH hB
  clear hB
  go_enter Tryz.func39,Tryz.ntmps39
  go_wp2_with fail
  go_ret
  exact⟨rfl,HB.out,World.grownBy.refl _ _⟩
 | true =>
  rw[if_pos rfl]
  obtain⟨W,hr,h1,h2⟩:=hB.tell x hx hn
  have HH:=lH (And.intro h1 h2)
  clear hB h1 h2
  go_enter Tryz.func39,Tryz.ntmps39
  go_wp2_with fail
  go_ret
  exact⟨rfl,HH.out.1,HH.out.2⟩
theorem xoR (d:ByteArray) (a:Int) (s:List ByteArray) (p:Int × Int) (r:List (Int × Int)):xeq d a s (p :: r)=if p.1≠a then false else if xyn d p ∈ s then false else xeq d (p.1+p.2) (s++[xyn d p]) r:=rfl
theorem xtD.grown {W X:World} {v:Value} {l:List (Int × Int)} {b:Nat} (h:xtD W v l) (hg:W.grownBy X (some b)) (hb:∃ es c,W.heap[b]?=some (.map es c)):xtD X v l:=by
 obtain⟨es,c,hm⟩:=hb
 obtain⟨a,cap,rfl,h1,h2,hc⟩:=h
 refine⟨a,cap,rfl,h1,h2,fun k t ht=>?_⟩
 obtain⟨g,off,ha,hgl,c0,c1⟩:=hc k t ht
 have hn:g≠b:=by
  rintro rfl
  simp[World.cell?,hm] at c0
 have hne:∀ o,some (⟨g,o,none⟩:Addr).block≠some b:=fun o e=>hn (Option.some.inj e)
 exact⟨g,off,ha,Nat.lt_of_lt_of_le hgl hg.size,hg.cell c0 (hne _),hg.cell c1 (hne _)⟩
theorem xbU.below {W X:World} {b B:Nat} {R:List ByteArray} (h:xbU W b R) (hb:Below B W X) (hB:b<B):xbU X b R:=by
 obtain⟨es,clock,h1,h2⟩:=h
 exact⟨es,clock,(hb.block b hB).trans h1,h2⟩
theorem xbU.map {W:World} {b:Nat} {R:List ByteArray} (h:xbU W b R):∃ es c,W.heap[b]?=some (.map es c):=by
 obtain⟨es,clock,h1,_⟩:=h
 exact⟨es,clock,h1⟩
theorem xbU.lt {W:World} {b:Nat} {R:List ByteArray} (h:xbU W b R):b<W.heap.size:=World.ownsMap.lt h
def InD (l:List (Int × Int)) (n:Int):Prop:=∀ p ∈ l,0≤p.1∧0≤p.2∧p.1+p.2≤n∧p.2≤4294967295
theorem xvZ (v:Value) (l:List (Int × Int)) (d:ByteArray) (w:World) (hv:xtD w v l) (hl:l.length≤20000000) (hd:d.size≤1000000) (hin:InD l d.size):Calls Tryz.prog 115 #[v,.string d] w fun e w'=>e=.returned (.bool (xeq d 0 [] l))∧Below w.heap.size w w':=by
 have hmm:=@run_makeMap Tryz.prog
 have hcl:∃ a cap,v=.slice a l.length cap:=by
  obtain⟨a,cap,rfl,_⟩:=hv
  exact⟨a,cap,rfl⟩
 have hbA:Below w.heap.size w (w.alloc (.map #[] 0)):=(Below.refl _ w).alloc (Nat.le_refl _) _
 have HP:=lH (hv.below hbA)
 have HM:=lH (xbU.made w)
 have HB:=lH hbA
 have HI:=lH hin
 have hw5:IntKind.u64.wrap (d.size:Int)=(d.size:Int):=by rw[IntKind.wrap_u64];omega
 obtain⟨a,cap,rfl⟩:=hcl
 obtain⟨r,hr⟩:∃ r,xeq d 0 [] l=r:=⟨_,rfl⟩
 rw[hr]
 have HR:=lH hr
 clear hv hin hbA hr
 go_enter Tryz.func115,Tryz.ntmps115
 go_wp2_with fail
 go_loopw [5,13] (fun at_ s wr=>∃ (i:Nat) (z:Int) (S:List ByteArray),i≤l.length∧s=.int .i64 i∧at_=.int .u64 z∧0≤z∧z≤(d.size:Int)∧S.length=i∧Hid (xeq d z S (l.drop i)=r)∧Hid (xtD wr (.slice a l.length cap) l)∧Hid (xbU wr w.heap.size S)∧Below w.heap.size w wr) (fun _ s _=>l.length - (intOf s).toNat)
 case atStart=>exact⟨0,0,[],Nat.zero_le _,rfl,rfl,Int.le_refl _,by omega,rfl,HR,HP,HM,HB.out⟩
 case round =>
  clear HP HM HB HR
  obtain⟨i,z,S,hi,rfl,rfl,z0,z1,hS,HR,HP,HM,hbw⟩:=hrel
  have hML:=HM.out.lt
  by_cases hlt:i<l.length
  ·obtain⟨t,ht⟩:∃ t,l[i]?=some t:=⟨_,List.getElem?_eq_getElem hlt⟩
   obtain⟨b0,b1,b2,b3⟩:=HI.out t (List.mem_of_getElem? ht)
   have hR2:=HR.out
   rw[show l.drop i=t :: l.drop (i+1) by rw[List.drop_eq_getElem_cons hlt];congr 1;rw[List.getElem?_eq_getElem hlt] at ht;exact Option.some.inj ht,xoR] at hR2
   obtain⟨a',cap',he,_,_,hc⟩:=HP.out
   injection he with e1 e2 e3
   subst e1 e3
   obtain⟨g,off,rfl,hg,l0,l1⟩:=hc i t ht
   have hi2:(i:Int)<(l.length:Int):=by omega
   clear hc e2 ht
   obtain⟨p,q⟩:=t
   dsimp only at l0 l1 b0 b1 b2 b3 hR2
   have HRR:=lH hR2
   clear hR2 HR
   by_cases hpz:p=z
   ·subst hpz
    have hne:(p != p)=false:=by simp
    have hwq:IntKind.u64.wrap q=q:=by rw[IntKind.wrap_u64];omega
    have hwz:IntKind.u64.wrap (p+q)=p+q:=by rw[IntKind.wrap_u64];omega
    have hpq:p≤p+q:=by omega
    have hR3:=HRR.out
    rw[if_neg (by simp)] at hR3
    obtain⟨T,hT⟩:∃ T,d.extract p.toNat (p+q).toNat=T:=⟨_,rfl⟩
    rw[show xyn d (p,q)=T from hT] at hR3
    have hTs:T.size≤maxLen:=by rw[← hT,ByteArray.size_extract];unfold maxLen;omega
    have hbl:Below w.heap.size w (wr.alloc (.cells #[.int .u64 p,.int .u32 q] 214)):=hbw.alloc hbw.size _
    have hb1:Below wr.heap.size wr (wr.alloc (.cells #[.int .u64 p,.int .u32 q] 214)):=(Below.refl _ wr).alloc (Nat.le_refl _) _
    have HM1:=HM.out.below hb1 hML
    have hlk:=HM1.look T hTs
    obtain⟨W2,htl,hs2,hg2⟩:=HM1.tell T hTs (by unfold maxLen;omega)
    have HP2:=lH ((HP.out.below hb1).grown hg2 HM1.map)
    have HS2:=lH hs2
    have HBW:=lH (hbl.grown hg2 hbl.size (fun k hk=>by cases hk;exact Nat.le_refl _))
    have HBL:=lH hbl
    clear HM1 hs2 hg2 hbl hb1 HM HP HRR
    by_cases hin:T ∈ S
    ·rw[if_pos hin] at hR3
     rw[decide_eq_true hin] at hlk
     subst hR3
     clear hin htl
     go_wp2_with fail
     go_ret
     exact⟨rfl,HBL.out⟩
    ·rw[if_neg hin] at hR3
     rw[decide_eq_false hin] at hlk
     have HR3:=lH hR3
     clear hin hR3
     go_wp2_with fail
     go_roundw
     case rel=>exact⟨i+1,p+q,S++[T],by omega,by go_num,rfl,by omega,by omega,by simp[hS],HR3,HP2,HS2,HBW.out⟩
     case measure=>simp[intOf];omega
   ·have hne:(p != z)=true:=by simpa using hpz
    have hR3:=HRR.out
    rw[if_pos hpz] at hR3
    subst hR3
    have HBL:=lH (show Below w.heap.size w (wr.alloc (.cells #[.int .u64 p,.int .u32 q] 214)) from hbw.alloc hbw.size _)
    clear HRR HM HP hpz
    go_wp2_with fail
    go_ret
    exact⟨rfl,HBL.out⟩
  ·obtain rfl:i=l.length:=by omega
   have hR2:=HR.out
   rw[List.drop_length,xeq] at hR2
   have hze:(z == (d.size:Int))=decide (z=(d.size:Int)):=by rw[Bool.eq_iff_iff];simp
   rw[hR2] at hze
   clear HP HM HR hR2
   go_wp2_with fail
   go_ret
   exact⟨xkY (by first|rfl|exact hze|(rw[hze])),hbw⟩
end Go.Proofs.YtjkgkmmkehnggaaGreatDoor
