/- Wm Wn. -/
import Derived.Test.YtjkgkmmkehnggaaGreatDoorVZ1
import Derived.Test.YtjkgkmmkehnggaaGreatDoorVb7
namespace Go.Proofs.YtjkgkmmkehnggaaGreatDoor
set_option linter.unusedVariables false
set_option linter.unusedSimpArgs false
open Go.RowKit
set_option maxRecDepth 20000
theorem secs_bd {h:Hd} (hs:SecsB h=true):h.rf+h.rl≤1099511627776∧h.mf+h.ml≤1099511627776∧h.lf+h.ll≤1099511627776∧h.df+h.dl≤1099511627776:=by
 unfold SecsB secB at hs
 simp only[Bool.and_eq_true,decide_eq_true_eq] at hs
 omega
theorem enK_succ (h:Hd) (k:Nat):enK h (k+1)=frK h k+lnK h k:=by unfold enK;rw[if_neg (by omega),Nat.add_sub_cancel]
theorem tight_no {h:Hd} {n:Int} {k:Nat} (hk:k<4) (hn:frK h k≠enK h k):tightA h n=false:=by
 rw[← Bool.not_eq_true]
 intro ht
 unfold tightA at ht
 simp only[Bool.and_eq_true,decide_eq_true_eq] at ht
 apply hn
 obtain rfl|rfl|rfl|rfl:k=0∨k=1∨k=2∨k=3:=by omega
 ·exact ht.1
 ·exact ht.2.1
 ·exact ht.2.2.1
 ·exact ht.2.2.2.1
theorem tight_yes {h:Hd} (n:Int) (ha:∀ j,j<4→frK h j=enK h j):tightA h n=(enK h 4 == n):=by
 have a0:=ha 0 (by omega)
 have a1:=ha 1 (by omega)
 have a2:=ha 2 (by omega)
 have a3:=ha 3 (by omega)
 have b0:h.rf=127:=a0
 have b1:h.mf=h.rf+h.rl:=a1
 have b2:h.lf=h.mf+h.ml:=a2
 have b3:h.df=h.lf+h.ll:=a3
 have b4:enK h 4=h.df+h.dl:=rfl
 rw[b4]
 unfold tightA
 rw[decide_eq_true b0,decide_eq_true b1,decide_eq_true b2,decide_eq_true b3]
 simp only[Bool.true_and]
 rw[Bool.eq_iff_iff,decide_eq_true_eq,beq_iff_eq]
set_option maxRecDepth 100000 in
set_option maxHeartbeats 4000000 in
theorem atight_any (h:Hd) (n:Int) (w:World) (hm:MayH h) (hs:SecsB h=true):Calls Tryz.prog 41 #[.agg (cH h),.int .u64 n] w fun e w'=>e=.returned (.bool (tightA h n))∧Below w.heap.size w w':=by
 obtain⟨b0,b1,b2,b3⟩:=secs_bd hs
 have HW:Hid (∀ k,k<4→IntKind.u64.wrap (frK h k+lnK h k)=frK h k+lnK h k):=Lib.hid (fun k hk=>by
  unfold MayH U64 at hm
  obtain rfl|rfl|rfl|rfl:k=0∨k=1∨k=2∨k=3:=by omega
  ·show IntKind.u64.wrap (h.rf+h.rl)=h.rf+h.rl
   rw[IntKind.wrap_u64];omega
  ·show IntKind.u64.wrap (h.mf+h.ml)=h.mf+h.ml
   rw[IntKind.wrap_u64];omega
  ·show IntKind.u64.wrap (h.lf+h.ll)=h.lf+h.ll
   rw[IntKind.wrap_u64];omega
  ·show IntKind.u64.wrap (h.df+h.dl)=h.df+h.dl
   rw[IntKind.wrap_u64];omega)
 obtain⟨r,hr⟩:∃ r,tightA h n=r:=⟨_,rfl⟩
 rw[hr]
 have HR:=Lib.hid hr
 clear hr hm hs b0 b1 b2 b3
 unfold cH
 go_enter Tryz.func41,Tryz.ntmps41
 go_wp2_with fail
 go_loopw [5,17] (fun e i wr=>∃ k:Nat,k≤4∧i=.int .i64 k∧e=.int .u64 (enK h k)∧Hid (∀ j,j<k→frK h j=enK h j)∧Below w.heap.size w wr) (fun _ i _=>4 - (intOf i).toNat)
 case atStart=>exact⟨0,by omega,rfl,rfl,Lib.hid (fun j hj=>by omega),by go_grown⟩
 case round =>
  obtain⟨k,hk,rfl,rfl,HA,hbw⟩:=hrel
  by_cases hk4:k<4
  ·have hd4:(k:Int)<4:=by omega
   have hI:=fun W=>idx_secK h k hk4 W
   have hw4:=HW.out k hk4
   have he:=enK_succ h k
   have HEN:=Lib.hid (fun W=>end_sec (frK h k) (lnK h k) W)
   rw[hw4] at HEN
   have HE:=Lib.hid he
   by_cases hf:frK h k=enK h k
   ·have HA2:Hid (∀ j,j<k+1→frK h j=enK h j):=Lib.hid (fun j hj=>by
     rcases Nat.lt_or_ge j k with g|g
     ·exact HA.out j g
     ·obtain rfl:j=k:=by omega
      exact hf)
    generalize enK h k=z at *
    rw[hf] at hI HEN HE
    generalize lnK h k=ln at *
    have hne:(z != z)=false:=by simp
    clear hf hw4 he HA
    go_wp2_with fail
    refine(HEN.out _).mono ?_
    rintro e w1 ⟨rfl,hb⟩
    have HB:=Lib.hid (Below.trans (hbw.alloc hbw.size _) (hb.mono (by have:=hbw.size;simp;omega)))
    clear hb hbw HEN
    go_wp2_with fail
    go_roundw
    case rel=>exact⟨k+1,by omega,by go_num,by rw[HE.out],HA2,HB.out⟩
    case measure=>simp[intOf];omega
   ·have HRF:Hid (r=false):=Lib.hid (by rw[← HR.out];exact tight_no hk4 hf)
    generalize enK h k=z at *
    generalize frK h k=fr at *
    generalize lnK h k=ln at *
    have hne:(fr != z)=true:=by simpa using hf
    have HB:=Lib.hid (hbw.alloc hbw.size (.cells #[.int .u64 fr,.int .u64 ln] 91))
    clear hf hw4 he HA hbw HEN HE
    go_wp2_with fail
    go_ret
    exact⟨ret_b HRF.out.symm,HB.out⟩
  ·obtain rfl:k=4:=by omega
   have hF:(enK h 4 == n)=r:=by rw[← HR.out];exact(tight_yes n (fun j hj=>HA.out j hj)).symm
   generalize enK h 4=z at *
   clear hk hk4
   go_wp2_with fail
   go_ret
   exact⟨ret_b (by first|exact hF|rfl),hbw⟩
set_option maxHeartbeats 4000000 in
theorem azooms_any (v:Value) (l:List En) (w:World) (hv:EnsAt w v l) (hm:MaysN l) (hl:l.length≤20000000):Calls Tryz.prog 117 #[v] w fun e w'=>e=.returned (.tuple #[.int .i64 (zloA l),.int .i64 (zhiA l)])∧Below w.heap.size w w':=by
 unfold zloA zhiA
 by_cases h0:l=[]
 ·subst h0
  obtain⟨av,cv,rfl⟩:=ensAt_form hv
  rw[if_pos rfl,if_pos rfl]
  clear hv
  go_enter Tryz.func117,Tryz.ntmps117
  go_wp2_with fail
  exact bodyPost_ret (results_tmp2 rfl _ _ _) rfl ⟨rfl,Below.refl _ _⟩
 ·rw[if_neg h0,if_neg h0]
  have hpos:0<l.length:=List.length_pos_iff.2 h0
  obtain⟨a,cap,rfl,h1,h2,hc⟩:=hv
  obtain⟨m,hmm⟩:∃ m,l.length=m+1:=⟨l.length - 1,by omega⟩
  obtain⟨g,off,rfl,hg,c0,c1,c2,c3⟩:=hc 0 _ (gS_get l 0 hpos)
  obtain⟨g',off',he,hg',d0,d1,d2,d3⟩:=hc m _ (gS_get l m (by omega))
  simp only[Option.some.injEq,Addr.mk.injEq,and_true] at he
  obtain⟨rfl,rfl⟩:=he
  have m0:=hm _ (gS_mem l 0 hpos)
  have m1:=hm _ (gS_mem l m (by omega))
  rw[show l.length - 1=m by omega]
  have hla:0≤laN (gS l m):=by
   unfold MayN at m1
   unfold laN
   split
   ·have:=wd_pos (gS l m) m1.2.2.2.1
    omega
   ·omega
  have HZ:=Lib.hid (fun W=>zoom_any (gS l 0).id m0.1.1 W)
  have HL:=Lib.hid (fun W=>plast_any (gS l m) W m1)
  have HZ2:=Lib.hid (fun W=>zoom_any (laN (gS l m)) hla W)
  clear m0 m1 hm hc h0 hla
  generalize laN (gS l m)=la at *
  generalize gS l 0=e0 at *
  generalize gS l m=e1 at *
  obtain⟨p1,p2,p3,p4⟩:=e0
  obtain⟨q1,q2,q3,q4⟩:=e1
  unfold eC at HL
  dsimp only at c0 c1 c2 c3 d0 d1 d2 d3 HL HZ ⊢
  have hmi:((l.length:Nat):Int) - 1=(m:Int):=by omega
  have hmw:IntKind.i64.wrap (m:Int)=(m:Int):=by rw[IntKind.wrap_i64];omega
  have hml:(m:Int)<(l.length:Int):=by omega
  have hm0:(0:Int)≤(m:Int):=by omega
  have h0l:(0:Int)<(l.length:Int):=by omega
  have hne:(((l.length:Nat):Int) == 0)=false:=by rw[beq_eq_false_iff_ne];omega
  simp only[Nat.zero_mul,Nat.add_zero] at c0 c1 c2 c3
  have HMM:=Lib.hid hmm
  clear c1 c2 c3 hmm
  go_enter Tryz.func117,Tryz.ntmps117
  go_upto_region 3 with fail
  refine wp_region_held_drew (S:=fun w'=>(w'.cell? ⟨g,off,none⟩=some (.int .u64 p1)∧w'.cell? ⟨g,off+m*4,none⟩=some (.int .u64 q1)∧w'.cell? ⟨g,off+m*4+1,none⟩=some (.int .u64 q2)∧w'.cell? ⟨g,off+m*4+2,none⟩=some (.int .u32 q3)∧w'.cell? ⟨g,off+m*4+3,none⟩=some (.int .u32 q4))∧Below w.heap.size w w') (by kernel_rfl) ⟨⟨c0,d0,d1,d2,d3⟩,Below.drew (Below.refl _ _)⟩ (fun hH0=>?_)
  refine tK 0 7 hH0 ?_
  try simp only[Act.put,zsA,zsB,zsC]
  refine tK 1 8 hH0 ?_
  try simp only[Act.put,zsA,zsB,zsC]
  refine tK 2 9 hH0 ?_
  try simp only[Act.put,zsA,zsB,zsC]
  refine tK 3 10 hH0 ?_
  try simp only[Act.put,zsA,zsB,zsC]
  refine tK 5 12 hH0 ?_
  try simp only[Act.put,zsA,zsB,zsC]
  refine tK 6 13 hH0 ?_
  try simp only[Act.put,zsA,zsB,zsC]
  refine tK 7 14 hH0 ?_
  try simp only[Act.put,zsA,zsB,zsC]
  refine tK 8 15 hH0 ?_
  try simp only[Act.put,zsA,zsB,zsC]
  refine tK 9 16 hH0 ?_
  try simp only[Act.put,zsA,zsB,zsC]
  refine tK 10 17 hH0 ?_
  try simp only[Act.put,zsA,zsB,zsC]
  refine wpAnyH_ready (rs:=[4]) (by kernel_rfl) (by simp) ?_
  refine AllReadyH.cons rfl (fun K hK=>?_) AllReadyH.nil
  go_simp
  refine(HZ.out _).mono ?_
  rintro e w1 ⟨rfl,rfl⟩
  go_wp2_with fail
  refine hK.out _ _ (hH0) (fun hH1=>?_)
  clear hK K
  try simp only[Act.put,zsA,zsB,zsC]
  refine wpAnyH_ready (rs:=[11]) (by kernel_rfl) (by simp) ?_
  refine AllReadyH.cons rfl (fun K hK=>?_) AllReadyH.nil
  go_simp
  refine(HL.out _).mono ?_
  rintro e w2 ⟨rfl,hb⟩
  go_wp2_with fail
  refine hK.out _ _ (⟨⟨ecell_later hb hH1.1.1,ecell_later hb hH1.1.2.1,ecell_later hb hH1.1.2.2.1,ecell_later hb hH1.1.2.2.2.1,ecell_later hb hH1.1.2.2.2.2⟩,hH1.2.trans (hb.mono hH1.2.size)⟩) (fun hH2=>?_)
  clear hb hH1
  clear hK K
  try simp only[Act.put,zsA,zsB,zsC]
  refine wpAnyH_ready (rs:=[12]) (by kernel_rfl) (by simp) ?_
  refine AllReadyH.cons rfl (fun K hK=>?_) AllReadyH.nil
  go_simp
  refine(HZ2.out _).mono ?_
  rintro e w3 ⟨rfl,rfl⟩
  go_wp2_with fail
  refine hK.out _ _ (hH2) (fun hH3=>?_)
  clear hK K
  try simp only[Act.put,zsA,zsB,zsC]
  refine tK 13 2 hH3 ?_
  try simp only[Act.put,zsA,zsB,zsC]
  refine tK 14 3 hH3 ?_
  try simp only[Act.put,zsA,zsB,zsC]
  refine wpAnyH_done (by kernel_rfl) ?_ _
  go_wp2_with fail
  exact bodyPost_ret (results_tmp2 rfl _ _ _) rfl ⟨rfl,hH3.2⟩
def LeafEnd (o:Option (List En)) (w:World) (e:Ending) (w':World):Prop :=
 ∃ v,e=.returned (.tuple #[v,.bool o.isSome])∧OwnE w' w.heap.size 147 v (o.getD [])∧Below w.heap.size w w'
set_option maxHeartbeats 4000000 in
theorem aleaf_any (e:En) (d:ByteArray) (w:World) (hm:MayN e) (hck:ckN e=0) (hd:d.size≤1000000):Calls Tryz.prog 109 #[.agg (eC e),.string d] w (LeafEnd (leafA e d) w):=by
 have hco:=ck_ok e hck
 have hmn:=hm
 unfold MayN at hmn
 have w1:IntKind.u64.wrap e.ln=e.ln:=by rw[IntKind.wrap_u64];omega
 have w2:IntKind.u64.wrap (e.off+e.ln)=e.off+e.ln:=by rw[IntKind.wrap_u64];omega
 have w3:IntKind.u64.wrap (d.size:Int)=(d.size:Int):=by rw[IntKind.wrap_u64];omega
 have o0:0≤e.off:=hmn.2.1.1
 have o1:e.off≤e.off+e.ln:=by omega
 have HEA:=Lib.hid (EAt.made w e 147)
 have HB0:=Lib.hid (show Below w.heap.size w (w.alloc (.cells (eC e) 147)) from (Below.refl _ _).alloc (Nat.le_refl _) _)
 unfold LeafEnd
 obtain⟨D,hD⟩:∃ D,decD (bitE e d)=D:=⟨_,rfl⟩
 have HDC:=Lib.hid (fun W=>pdecD_any (d.extract e.off.toNat (e.off+e.ln).toNat) W (by rw[ByteArray.size_extract];unfold maxLen;omega))
 have hbit:(d.extract e.off.toNat (e.off+e.ln).toNat).data.toList=bitE e d:=rfl
 rw[hbit,hD] at HDC
 obtain⟨O,hO⟩:∃ O,leafA e d=O:=⟨_,rfl⟩
 rw[hO]
 unfold leafA at hO
 rw[hD] at hO
 unfold eC at HB0
 unfold DecEnd at HDC
 clear hm hck hco hmn hbit hD
 obtain⟨e1,e2,e3,e4⟩:=e
 unfold eC
 dsimp only at w1 w2 w3 o0 o1 HEA HB0 HDC hO
 obtain⟨n,hn⟩:∃ n,e2+e3=n:=⟨_,rfl⟩
 rw[hn] at w2 o1 HDC hO
 have HN:=Lib.hid hn
 by_cases h1:(d.size:Int)<n
 ·rw[if_pos h1] at hO
  subst hO
  have g1:decide ((d.size:Int)<n)=true:=decide_eq_true h1
  clear h1 HDC HEA
  have w2':IntKind.u64.wrap (e2+e3)=n:=by rw[hn,w2]
  clear hn
  go_enter Tryz.func109,Tryz.ntmps109
  go_wp2_with fail
  exact bodyPost_ret (results_tmp2 rfl _ _ _) rfl ⟨_,rfl,ownE_nil _ _ _,HB0.out⟩
 rw[if_neg h1] at hO
 have g1:decide ((d.size:Int)<n)=false:=decide_eq_false h1
 have o2:n≤(d.size:Int):=by omega
 have w2':IntKind.u64.wrap (e2+e3)=n:=by rw[hn,w2]
 clear h1 hn
 have HO:=Lib.hid hO
 clear hO
 go_enter Tryz.func109,Tryz.ntmps109
 obtain⟨k0,k1,k2,k3⟩:=HEA.out
 dsimp only at k0 k1 k2 k3
 go_wp2_with fail
 refine(HDC.out _).mono ?_
 rintro x w4 ⟨v',rfl,ho,hb⟩
 have HC:=Lib.hid (And.intro (ecell_later hb (show (w.alloc (.cells #[.int .u64 e1,.int .u64 e2,.int .u32 e3,.int .u32 e4] 147)).cell? ⟨w.heap.size,0,none⟩=some (.int .u64 e1) by simp[go_sem])) (HB0.out.trans (hb.mono HB0.out.size)))
 have HOW:=Lib.hid (ho.mono HB0.out.size)
 obtain⟨l,m,z⟩:=D
 dsimp only at HO HOW ho ⊢
 obtain⟨av,cv,rfl⟩:=ensAt_form ho.ensAt
 have HEN:=Lib.hid ho.ensAt
 clear k0 k1 k2 k3 hb ho HDC HEA HB0
 by_cases h2:z=0
 ·subst h2
  have hO:=HO.out
  rw[if_neg (by simp)] at hO
  cases l with
  | nil =>
   rw[if_pos (.inl rfl)] at hO
   subst hO
   clear HO
   go_upto_region 5 with fail
   refine wp_region_held_drew (S:=fun w'=>w'.cell? ⟨w.heap.size,0,none⟩=some (.int .u64 e1)∧Below w.heap.size w w') (by kernel_rfl) ⟨ecell_later (Below.drew (Below.refl _ _)) HC.out.1,Below.drew HC.out.2⟩ (fun hH0=>?_)
   refine tK 0 31 hH0 ?_
   try simp only[Act.put,zsA,zsB,zsC]
   refine tK 1 32 hH0 ?_
   try simp only[Act.put,zsA,zsB,zsC]
   refine tK 2 33 hH0 ?_
   try simp only[Act.put,zsA,zsB,zsC]
   refine tK 3 34 hH0 ?_
   try simp only[Act.put,zsA,zsB,zsC]
   refine tK 4 35 hH0 ?_
   try simp only[Act.put,zsA,zsB,zsC]
   refine tK 5 36 hH0 ?_
   try simp only[Act.put,zsA,zsB,zsC]
   refine tK 6 37 hH0 ?_
   try simp only[Act.put,zsA,zsB,zsC]
   refine tK 7 38 hH0 ?_
   try simp only[Act.put,zsA,zsB,zsC]
   refine tU 8 39 hH0 ?_
   try simp only[Act.put,zsA,zsB,zsC]
   refine tU 9 40 hH0 ?_
   try simp only[Act.put,zsA,zsB,zsC]
   refine tU 10 41 hH0 ?_
   try simp only[Act.put,zsA,zsB,zsC]
   refine tU 11 42 hH0 ?_
   try simp only[Act.put,zsA,zsB,zsC]
   refine tU 12 43 hH0 ?_
   try simp only[Act.put,zsA,zsB,zsC]
   refine tU 13 44 hH0 ?_
   try simp only[Act.put,zsA,zsB,zsC]
   refine tU 14 45 hH0 ?_
   try simp only[Act.put,zsA,zsB,zsC]
   refine tK 15 46 hH0 ?_
   try simp only[Act.put,zsA,zsB,zsC]
   refine wpAnyH_done (by kernel_rfl) ?_ _
   go_wp2_with fail
   exact bodyPost_ret (results_tmp2 rfl _ _ _) rfl ⟨_,rfl,ownE_nil _ _ _,hH0.2⟩
  | cons x r =>
   obtain⟨g,off,cap,hv2,hle,hg,hc⟩:=ens_at HEN.out 0 (by simp)
   injection hv2 with ha hb2 hc2
   subst ha hc2
   obtain⟨c0,-,-,-⟩:=hc 0 x rfl
   simp only[Nat.zero_mul,Nat.add_zero] at c0
   have hnl:(((x :: r).length:Nat):Int)=(r.length:Int)+1:=by simp
   have hne:((((x :: r).length:Nat):Int) == 0)=false:=by rw[beq_eq_false_iff_ne,hnl];omega
   have hlt:(0:Int)<(((x :: r).length:Nat):Int):=by rw[hnl];omega
   have hltN:0<(x :: r).length:=by simp
   have hg0:gS (x :: r) 0=x:=rfl
   rw[hg0] at hO
   clear hc hg0 hnl hb2
   by_cases h3:x.id=e1
   ·rw[if_neg (by simp[h3])] at hO
    subst hO
    have t3:(x.id != e1)=false:=by simpa using h3
    obtain⟨x1,x2,x3,x4⟩:=x
    dsimp only at c0 t3 h3
    clear HO h3
    generalize hL:(⟨x1,x2,x3,x4⟩:En) :: r=L at *
    have HLL:=Lib.hid hL
    clear hL
    go_upto_region 5 with fail
    refine wp_region_held_drew (S:=fun w'=>(w'.cell? ⟨w.heap.size,0,none⟩=some (.int .u64 e1)∧w'.cell? ⟨g,off,none⟩=some (.int .u64 x1))∧Below w.heap.size w w') (by kernel_rfl) ⟨⟨ecell_later (Below.drew (Below.refl _ _)) HC.out.1,ecell_later (Below.drew (Below.refl _ _)) c0⟩,Below.drew HC.out.2⟩ (fun hH0=>?_)
    refine tK 0 31 hH0 ?_
    try simp only[Act.put,zsA,zsB,zsC]
    refine tK 1 32 hH0 ?_
    try simp only[Act.put,zsA,zsB,zsC]
    refine tK 2 33 hH0 ?_
    try simp only[Act.put,zsA,zsB,zsC]
    refine tK 3 34 hH0 ?_
    try simp only[Act.put,zsA,zsB,zsC]
    refine tK 4 35 hH0 ?_
    try simp only[Act.put,zsA,zsB,zsC]
    refine tK 5 36 hH0 ?_
    try simp only[Act.put,zsA,zsB,zsC]
    refine tK 6 37 hH0 ?_
    try simp only[Act.put,zsA,zsB,zsC]
    refine tK 7 38 hH0 ?_
    try simp only[Act.put,zsA,zsB,zsC]
    refine tK 8 39 hH0 ?_
    try simp only[Act.put,zsA,zsB,zsC]
    refine tK 9 40 hH0 ?_
    try simp only[Act.put,zsA,zsB,zsC]
    refine tK 10 41 hH0 ?_
    try simp only[Act.put,zsA,zsB,zsC]
    refine tK 11 42 hH0 ?_
    try simp only[Act.put,zsA,zsB,zsC]
    refine tK 12 43 hH0 ?_
    try simp only[Act.put,zsA,zsB,zsC]
    refine tK 13 44 hH0 ?_
    try simp only[Act.put,zsA,zsB,zsC]
    refine tK 14 45 hH0 ?_
    try simp only[Act.put,zsA,zsB,zsC]
    refine tK 15 46 hH0 ?_
    try simp only[Act.put,zsA,zsB,zsC]
    refine wpAnyH_done (by kernel_rfl) ?_ _
    go_wp2_with fail
    exact bodyPost_ret (results_tmp2 rfl _ _ _) rfl ⟨_,rfl,(by rw[show ((some ((⟨x1,x2,x3,x4⟩:En) :: r)).getD [])=L from HLL.out];exact HOW.out.below (Below.drew (Below.refl _ _))),hH0.2⟩
   ·rw[if_pos (.inr h3)] at hO
    subst hO
    have t3:(x.id != e1)=true:=by simpa using h3
    obtain⟨x1,x2,x3,x4⟩:=x
    dsimp only at c0 t3 h3
    clear HO h3
    generalize hL:(⟨x1,x2,x3,x4⟩:En) :: r=L at *
    have HLL:=Lib.hid hL
    clear hL
    go_upto_region 5 with fail
    refine wp_region_held_drew (S:=fun w'=>(w'.cell? ⟨w.heap.size,0,none⟩=some (.int .u64 e1)∧w'.cell? ⟨g,off,none⟩=some (.int .u64 x1))∧Below w.heap.size w w') (by kernel_rfl) ⟨⟨ecell_later (Below.drew (Below.refl _ _)) HC.out.1,ecell_later (Below.drew (Below.refl _ _)) c0⟩,Below.drew HC.out.2⟩ (fun hH0=>?_)
    refine tK 0 31 hH0 ?_
    try simp only[Act.put,zsA,zsB,zsC]
    refine tK 1 32 hH0 ?_
    try simp only[Act.put,zsA,zsB,zsC]
    refine tK 2 33 hH0 ?_
    try simp only[Act.put,zsA,zsB,zsC]
    refine tK 3 34 hH0 ?_
    try simp only[Act.put,zsA,zsB,zsC]
    refine tK 4 35 hH0 ?_
    try simp only[Act.put,zsA,zsB,zsC]
    refine tK 5 36 hH0 ?_
    try simp only[Act.put,zsA,zsB,zsC]
    refine tK 6 37 hH0 ?_
    try simp only[Act.put,zsA,zsB,zsC]
    refine tK 7 38 hH0 ?_
    try simp only[Act.put,zsA,zsB,zsC]
    refine tK 8 39 hH0 ?_
    try simp only[Act.put,zsA,zsB,zsC]
    refine tK 9 40 hH0 ?_
    try simp only[Act.put,zsA,zsB,zsC]
    refine tK 10 41 hH0 ?_
    try simp only[Act.put,zsA,zsB,zsC]
    refine tK 11 42 hH0 ?_
    try simp only[Act.put,zsA,zsB,zsC]
    refine tK 12 43 hH0 ?_
    try simp only[Act.put,zsA,zsB,zsC]
    refine tK 13 44 hH0 ?_
    try simp only[Act.put,zsA,zsB,zsC]
    refine tK 14 45 hH0 ?_
    try simp only[Act.put,zsA,zsB,zsC]
    refine tK 15 46 hH0 ?_
    try simp only[Act.put,zsA,zsB,zsC]
    refine wpAnyH_done (by kernel_rfl) ?_ _
    go_wp2_with fail
    exact bodyPost_ret (results_tmp2 rfl _ _ _) rfl ⟨_,rfl,ownE_nil _ _ _,hH0.2⟩
 ·have hO:=HO.out
  rw[if_pos h2] at hO
  subst hO
  have t1:(z != 0)=true:=by simpa using h2
  clear HO h2
  go_upto_region 5 with fail
  refine wp_region_held_drew (S:=fun w'=>w'.cell? ⟨w.heap.size,0,none⟩=some (.int .u64 e1)∧Below w.heap.size w w') (by kernel_rfl) ⟨ecell_later (Below.drew (Below.refl _ _)) HC.out.1,Below.drew HC.out.2⟩ (fun hH0=>?_)
  refine tK 0 31 hH0 ?_
  try simp only[Act.put,zsA,zsB,zsC]
  refine tK 1 32 hH0 ?_
  try simp only[Act.put,zsA,zsB,zsC]
  refine tK 2 33 hH0 ?_
  try simp only[Act.put,zsA,zsB,zsC]
  refine tU 3 34 hH0 ?_
  try simp only[Act.put,zsA,zsB,zsC]
  refine tU 4 35 hH0 ?_
  try simp only[Act.put,zsA,zsB,zsC]
  refine tU 5 36 hH0 ?_
  try simp only[Act.put,zsA,zsB,zsC]
  refine tK 6 37 hH0 ?_
  try simp only[Act.put,zsA,zsB,zsC]
  refine tK 7 38 hH0 ?_
  try simp only[Act.put,zsA,zsB,zsC]
  refine tU 8 39 hH0 ?_
  try simp only[Act.put,zsA,zsB,zsC]
  refine tU 9 40 hH0 ?_
  try simp only[Act.put,zsA,zsB,zsC]
  refine tU 10 41 hH0 ?_
  try simp only[Act.put,zsA,zsB,zsC]
  refine tU 11 42 hH0 ?_
  try simp only[Act.put,zsA,zsB,zsC]
  refine tU 12 43 hH0 ?_
  try simp only[Act.put,zsA,zsB,zsC]
  refine tU 13 44 hH0 ?_
  try simp only[Act.put,zsA,zsB,zsC]
  refine tU 14 45 hH0 ?_
  try simp only[Act.put,zsA,zsB,zsC]
  refine tK 15 46 hH0 ?_
  try simp only[Act.put,zsA,zsB,zsC]
  refine wpAnyH_done (by kernel_rfl) ?_ _
  go_wp2_with fail
  exact bodyPost_ret (results_tmp2 rfl _ _ _) rfl ⟨_,rfl,ownE_nil _ _ _,hH0.2⟩
end Go.Proofs.YtjkgkmmkehnggaaGreatDoor
namespace Go.Proofs.YtjkgkmmkehnggaaGreatDoor
set_option linter.unusedVariables false
set_option linter.unusedSimpArgs false
open Go.RowKit Go.Maps
set_option maxRecDepth 20000
def addR (c:Bool) (x:Int) (R:List Int):List Int:=if c=true then R++[x] else R
def AskEnd (b:Nat) (c:Bool) (x:Int) (R:List Int) (w:World) (e:Ending) (w':World):Prop:=e=.returned (.bool c)∧BrkAt w' b (addR c x R)∧w.grownBy w' (some b)
theorem ask_any (b:Nat) (x:Int) (c:Bool) (R:List Int) (w:World) (hB:BrkAt w b R) (hx:0≤x∧x≤255) (hn:R.length<maxLen):Calls Tryz.prog 39 #[.map (some b),.int .u8 x,.bool c] w (AskEnd b c x R w):=by
 unfold AskEnd addR
 cases c with
 | false =>
  rw[if_neg (by simp)]
  have HB:=Lib.hid hB
  clear hB
  go_enter Tryz.func39,Tryz.ntmps39
  go_wp2_with fail
  go_ret
  exact⟨rfl,HB.out,World.grownBy.refl _ _⟩
 | true =>
  rw[if_pos rfl]
  obtain⟨W,hr,h1,h2⟩:=hB.tell x hx hn
  have HH:=Lib.hid (And.intro h1 h2)
  clear hB h1 h2
  go_enter Tryz.func39,Tryz.ntmps39
  go_wp2_with fail
  go_ret
  exact⟨rfl,HH.out.1,HH.out.2⟩
theorem onceG_cons (d:ByteArray) (a:Int) (s:List ByteArray) (p:Int × Int) (r:List (Int × Int)):onceG d a s (p :: r)=if p.1≠a then false else if txtP d p ∈ s then false else onceG d (p.1+p.2) (s++[txtP d p]) r:=rfl
theorem PqAt.grown {W X:World} {v:Value} {l:List (Int × Int)} {b:Nat} (h:PqAt W v l) (hg:W.grownBy X (some b)) (hb:∃ es c,W.heap[b]?=some (.map es c)):PqAt X v l:=by
 obtain⟨es,c,hm⟩:=hb
 obtain⟨a,cap,rfl,h1,h2,hc⟩:=h
 refine⟨a,cap,rfl,h1,h2,fun k t ht=>?_⟩
 obtain⟨g,off,ha,hgl,c0,c1⟩:=hc k t ht
 have hn:g≠b:=by
  rintro rfl
  simp[World.cell?,hm] at c0
 have hne:∀ o,some (⟨g,o,none⟩:Addr).block≠some b:=fun o e=>hn (Option.some.inj e)
 exact⟨g,off,ha,Nat.lt_of_lt_of_le hgl hg.size,hg.cell c0 (hne _),hg.cell c1 (hne _)⟩
theorem SeenAt.below {W X:World} {b B:Nat} {R:List ByteArray} (h:SeenAt W b R) (hb:Below B W X) (hB:b<B):SeenAt X b R:=by
 obtain⟨es,clock,h1,h2⟩:=h
 exact⟨es,clock,(hb.block b hB).trans h1,h2⟩
theorem SeenAt.map {W:World} {b:Nat} {R:List ByteArray} (h:SeenAt W b R):∃ es c,W.heap[b]?=some (.map es c):=by
 obtain⟨es,clock,h1,_⟩:=h
 exact⟨es,clock,h1⟩
theorem SeenAt.lt {W:World} {b:Nat} {R:List ByteArray} (h:SeenAt W b R):b<W.heap.size:=World.ownsMap.lt h
def InD (l:List (Int × Int)) (n:Int):Prop:=∀ p ∈ l,0≤p.1∧0≤p.2∧p.1+p.2≤n∧p.2≤4294967295
set_option maxHeartbeats 4000000 in
theorem once_any (v:Value) (l:List (Int × Int)) (d:ByteArray) (w:World) (hv:PqAt w v l) (hl:l.length≤20000000) (hd:d.size≤1000000) (hin:InD l d.size):Calls Tryz.prog 115 #[v,.string d] w fun e w'=>e=.returned (.bool (onceG d 0 [] l))∧Below w.heap.size w w':=by
 have hmm:=@run_makeMap Tryz.prog
 have hcl:∃ a cap,v=.slice a l.length cap:=by
  obtain⟨a,cap,rfl,_⟩:=hv
  exact⟨a,cap,rfl⟩
 have hbA:Below w.heap.size w (w.alloc (.map #[] 0)):=(Below.refl _ w).alloc (Nat.le_refl _) _
 have HP:=Lib.hid (hv.below hbA)
 have HM:=Lib.hid (SeenAt.made w)
 have HB:=Lib.hid hbA
 have HI:=Lib.hid hin
 have hw5:IntKind.u64.wrap (d.size:Int)=(d.size:Int):=by rw[IntKind.wrap_u64];omega
 obtain⟨a,cap,rfl⟩:=hcl
 obtain⟨r,hr⟩:∃ r,onceG d 0 [] l=r:=⟨_,rfl⟩
 rw[hr]
 have HR:=Lib.hid hr
 clear hv hin hbA hr
 go_enter Tryz.func115,Tryz.ntmps115
 go_wp2_with fail
 go_loopw [5,13] (fun at_ s wr=>∃ (i:Nat) (z:Int) (S:List ByteArray),i≤l.length∧s=.int .i64 i∧at_=.int .u64 z∧0≤z∧z≤(d.size:Int)∧S.length=i∧Hid (onceG d z S (l.drop i)=r)∧Hid (PqAt wr (.slice a l.length cap) l)∧Hid (SeenAt wr w.heap.size S)∧Below w.heap.size w wr) (fun _ s _=>l.length - (intOf s).toNat)
 case atStart=>exact⟨0,0,[],Nat.zero_le _,rfl,rfl,Int.le_refl _,by omega,rfl,HR,HP,HM,HB.out⟩
 case round =>
  clear HP HM HB HR
  obtain⟨i,z,S,hi,rfl,rfl,z0,z1,hS,HR,HP,HM,hbw⟩:=hrel
  have hML:=HM.out.lt
  by_cases hlt:i<l.length
  ·obtain⟨t,ht⟩:∃ t,l[i]?=some t:=⟨_,List.getElem?_eq_getElem hlt⟩
   obtain⟨b0,b1,b2,b3⟩:=HI.out t (List.mem_of_getElem? ht)
   have hR2:=HR.out
   rw[show l.drop i=t :: l.drop (i+1) by rw[List.drop_eq_getElem_cons hlt];congr 1;rw[List.getElem?_eq_getElem hlt] at ht;exact Option.some.inj ht,onceG_cons] at hR2
   obtain⟨a',cap',he,_,_,hc⟩:=HP.out
   injection he with e1 e2 e3
   subst e1 e3
   obtain⟨g,off,rfl,hg,l0,l1⟩:=hc i t ht
   have hi2:(i:Int)<(l.length:Int):=by omega
   clear hc e2 ht
   obtain⟨p,q⟩:=t
   dsimp only at l0 l1 b0 b1 b2 b3 hR2
   have HRR:=Lib.hid hR2
   clear hR2 HR
   by_cases hpz:p=z
   ·subst hpz
    have hne:(p != p)=false:=by simp
    have hwq:IntKind.u64.wrap q=q:=by rw[IntKind.wrap_u64];omega
    have hwz:IntKind.u64.wrap (p+q)=p+q:=by rw[IntKind.wrap_u64];omega
    have hpq:p≤p+q:=by omega
    have hR3:=HRR.out
    rw[if_neg (by simp)] at hR3
    obtain⟨T,hT⟩:∃ T,d.extract p.toNat (p+q).toNat=T:=⟨_,rfl⟩
    rw[show txtP d (p,q)=T from hT] at hR3
    have hTs:T.size≤maxLen:=by rw[← hT,ByteArray.size_extract];unfold maxLen;omega
    have hbl:Below w.heap.size w (wr.alloc (.cells #[.int .u64 p,.int .u32 q] 214)):=hbw.alloc hbw.size _
    have hb1:Below wr.heap.size wr (wr.alloc (.cells #[.int .u64 p,.int .u32 q] 214)):=(Below.refl _ wr).alloc (Nat.le_refl _) _
    have HM1:=HM.out.below hb1 hML
    have hlk:=HM1.look T hTs
    obtain⟨W2,htl,hs2,hg2⟩:=HM1.tell T hTs (by unfold maxLen;omega)
    have HP2:=Lib.hid ((HP.out.below hb1).grown hg2 HM1.map)
    have HS2:=Lib.hid hs2
    have HBW:=Lib.hid (hbl.grown hg2 hbl.size (fun k hk=>by cases hk;exact Nat.le_refl _))
    have HBL:=Lib.hid hbl
    clear HM1 hs2 hg2 hbl hb1 HM HP HRR
    by_cases hin:T ∈ S
    ·rw[if_pos hin] at hR3
     rw[decide_eq_true hin] at hlk
     subst hR3
     clear hin htl
     go_wp2_with fail
     go_ret
     exact⟨rfl,HBL.out⟩
    ·rw[if_neg hin] at hR3
     rw[decide_eq_false hin] at hlk
     have HR3:=Lib.hid hR3
     clear hin hR3
     go_wp2_with fail
     go_roundw
     case rel=>exact⟨i+1,p+q,S++[T],by omega,by go_num,rfl,by omega,by omega,by simp[hS],HR3,HP2,HS2,HBW.out⟩
     case measure=>simp[intOf];omega
   ·have hne:(p != z)=true:=by simpa using hpz
    have hR3:=HRR.out
    rw[if_pos hpz] at hR3
    subst hR3
    have HBL:=Lib.hid (show Below w.heap.size w (wr.alloc (.cells #[.int .u64 p,.int .u32 q] 214)) from hbw.alloc hbw.size _)
    clear HRR HM HP hpz
    go_wp2_with fail
    go_ret
    exact⟨rfl,HBL.out⟩
  ·obtain rfl:i=l.length:=by omega
   have hR2:=HR.out
   rw[List.drop_length,onceG] at hR2
   have hze:(z == (d.size:Int))=decide (z=(d.size:Int)):=by rw[Bool.eq_iff_iff];simp
   rw[hR2] at hze
   clear HP HM HR hR2
   go_wp2_with fail
   go_ret
   exact⟨ret_b (by first|rfl|exact hze|(rw[hze])),hbw⟩
end Go.Proofs.YtjkgkmmkehnggaaGreatDoor
