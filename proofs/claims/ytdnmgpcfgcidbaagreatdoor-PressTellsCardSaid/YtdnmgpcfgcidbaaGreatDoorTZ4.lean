/- Zs2 Zy Zz Za Zb Z1. -/
import Derived.Test.YtdnmgpcfgcidbaaGreatDoorTZ3
import Derived.Test.YtdnmgpcfgcidbaaGreatDoorTc4
namespace Go.Proofs.YtdnmgpcfgcidbaaGreatDoor
set_option linter.unusedVariables false
set_option linter.unusedSimpArgs false
open Go.RowKit
set_option maxRecDepth 20000
set_option maxHeartbeats 8000000 in
theorem rnumber_any (s:ByteArray) (p:Nat) (w:World) (hs:s.size≤1000000) (hp:p<s.size) (hc:isN ((s[p]'hp).toNat:Int)=true) :
  Calls Tryz.prog 174 #[.string s,.int .i64 p] w (ValE (numP ((bI s).drop p)) p w):=by
 have hlen:=bI_len s
 have hsp0:=bI_split s p hp
 obtain⟨b,hb⟩:∃ b,((s[p]'hp).toNat:Int)=b:=⟨_,rfl⟩
 rw[hb] at hsp0 hc
 obtain⟨n,hn⟩:∃ n,spanN ((bI s).drop p)=n:=⟨_,rfl⟩
 have hn0:1≤n:=by rw[← hn,hsp0,spanN_cons,if_pos hc];omega
 have hnl:=span_le ((bI s).drop p)
 rw[hn,List.length_drop,hlen] at hnl
 obtain⟨z,hz⟩:∃ z,p+n=z:=⟨_,rfl⟩
 obtain⟨T,hT⟩:∃ T,((bI s).drop p).take n=T:=⟨_,rfl⟩
 obtain⟨R,hR⟩:∃ R,numP ((bI s).drop p)=R:=⟨_,rfl⟩
 have hNP:=numP_T _ T (by rw[hn];exact hT)
 rw[hR,hn] at hNP
 rw[hR]
 obtain⟨t,ht⟩:∃ t,s.extract p z=t:=⟨_,rfl⟩
 have htI:bI t=T:=by rw[← ht,bI_extract _ _ _ (by omega),← hz,Nat.add_sub_cancel_left,hT]
 have hts:t.size=n:=by rw[← bI_len,htI,← hT,List.length_take,List.length_drop,hlen];omega
 have ht0:0<t.size:=by omega
 have h1:=bI_split t 0 ht0
 rw[List.drop_zero,htI] at h1
 have e0:((t[0]'ht0).toNat:Int)=b:=by
  have h2:=h1
  rw[← hT,hsp0] at h2
  obtain⟨m,rfl⟩:∃ m,n=m+1:=⟨n - 1,by omega⟩
  rw[List.take_succ_cons] at h2
  exact(List.cons.inj h2).1.symm
 rw[e0] at h1
 obtain⟨M,hM⟩:∃ M,(b == 45)=M:=⟨_,rfl⟩
 have hneg:isNeg T=M:=by rw[h1];exact hM
 have hZs:Hid (spanN ((bI s).drop p)=n∧p+n=z):=Lib.hid ⟨hn,hz⟩
 obtain⟨u,hu⟩:∃ u,u=if M=true then t.extract 1 t.size else t:=⟨_,rfl⟩
 have huI:bI u=unsgn T:=by
  rw[hu,h1,unsgn]
  by_cases hb45:b=45
  ·rw[if_pos hb45,if_pos (by rw[← hM];simp[hb45]),bI_extract _ _ _ (by omega),List.take_of_length_le (by rw[List.length_drop,bI_len];omega),htI]
  ·rw[if_neg hb45,if_neg (by rw[← hM];simp[hb45]),htI];exact h1
 have hul:u.size=(unsgn T).length:=by rw[← huI,bI_len]
 have huz:u.size≤t.size:=by rw[hu];split;rw[ByteArray.size_extract];omega;exact Nat.le_refl _
 obtain⟨U,hU⟩:∃ U,unsgn T=U:=⟨_,rfl⟩
 rw[hU,hneg] at hNP
 rw[hU] at huI hul
 have HU:=Lib.hid hu
 have HUL:=Lib.hid hul
 have HM:Hid (M=true→u=t.extract 1 t.size):=Lib.hid (fun h=>by rw[hu,if_pos h])
 have HM':Hid (M=false→u=t):=Lib.hid (fun h=>by rw[hu,if_neg (by simp[h])])
 have HNP:=Lib.hid hNP
 have HI:=Lib.hid huI
 have hzs:z≤s.size:=by omega
 have hpz:p≤z:=by omega
 have hz0:(p:Int)≤(z:Int):=by omega
 have hz1:(z:Int)≤(s.size:Int):=by omega
 have ht1:(0:Int)<(t.size:Int):=by omega
 have ht2:(1:Int)≤(t.size:Int):=by omega
 have hts3:t.size≤1000000:=by omega
 have HW:Hid (∀ c W,Calls Tryz.prog 173 #[.int .u8 c,.string numBz] W fun e w'=>e=.returned (.bool (isN c))∧W=w'):=Lib.hid (fun c W=>by have:=rwithin_any c numBz W (by decide);rwa[inL_num] at this)
 have HD:Hid (∀ c W,Calls Tryz.prog 173 #[.int .u8 c,.string digBz] W fun e w'=>e=.returned (.bool (isD c))∧W=w'):=Lib.hid (fun c W=>by have:=rwithin_any c digBz W (by decide);rwa[inL_dig] at this)
 unfold numBz at HW
 unfold digBz at HD
 have HX0:=Lib.hid (And.intro (show ndNode (w.alloc (.cells ndZ 101)) w.heap.size ndZ from heap_new w _) (below_oneC w (.cells ndZ 101)))
 unfold ndZ at HX0
 clear hNP hu hlen hsp0 hb hc hn hnl hz hT hR hneg hU huI h1 htI hts hn0 hul
 go_enter Tryz.func174,Tryz.ntmps174
 generalize hQQ:bodyPost Tryz.prog Tryz.f174 (ValE R p w)=QQ
 have HQQ:=Lib.hid hQQ
 go_upto_block 0 with fail
 go_cut [7] from 12 to 85 (fun v wx=>v=.int .i64 z∧ndNode wx w.heap.size ndZ∧Below w.heap.size w wx)
 case first =>
  go_wp2_with fail
  go_loopw [7] (fun i wr=>∃ q:Nat,q≤z∧i=.int .i64 q∧Hid (q+spanN ((bI s).drop q)=z)∧ndNode wr w.heap.size ndZ∧Below w.heap.size w wr) (fun i _=>s.size - (intOf i).toNat)
  case atStart=>exact⟨p,hpz,rfl,Lib.hid (by rw[hZs.out.1];exact hZs.out.2),HX0.out.1,HX0.out.2⟩
  case round =>
   obtain⟨q,hq,rfl,HG,hnd,hbw⟩:=hrel
   have HX:=Lib.hid (And.intro hnd hbw)
   clear hnd hbw HX0
   by_cases hlt:q<s.size
   ·have hi0:(0:Int)≤(q:Int):=by omega
    have hi1:(q:Int)<(s.size:Int):=by omega
    have hsp:=bI_split s q hlt
    obtain⟨c,hcc⟩:∃ c,((s[q]'hlt).toNat:Int)=c:=⟨_,rfl⟩
    rw[hcc] at hsp
    rw[hsp,spanN_cons] at HG
    have HC:=Lib.hid (fun W=>HW.out c W)
    cases hcn:isN c
    ·rw[hcn] at HG HC
     have HE:Hid (q=z):=Lib.hid (by have:=HG.out;simpa using this)
     clear HG hsp hcn
     go_wp2_with fail
     refine(HC.out _).mono ?_
     rintro e w1 ⟨rfl,rfl⟩
     go_wp2_with fail
     go_meet
     case rel=>exact⟨by rw[HE.out],HX.out.1,HX.out.2⟩
    ·rw[hcn] at HG HC
     have HE:Hid (q+1+spanN ((bI s).drop (q+1))=z):=Lib.hid (by have:=HG.out;simp at this;omega)
     have hqz:q+1≤z:=by have:=HE.out;omega
     clear HG hsp hcn
     go_wp2_with fail
     refine(HC.out _).mono ?_
     rintro e w1 ⟨rfl,rfl⟩
     go_wp2_with fail
     go_roundw
     case rel=>exact⟨q+1,hqz,by go_num,HE,HX.out.1,HX.out.2⟩
     case measure=>simp[intOf];omega
   ·obtain rfl:q=s.size:=by omega
    have HE:Hid (s.size=z):=Lib.hid (by have:=HG.out;rw[List.drop_eq_nil_of_le (by rw[bI_len];exact Nat.le_refl _)] at this;exact this)
    clear HG
    go_wp2_with fail
    go_meet
    case rel=>exact⟨by rw[HE.out],HX.out.1,HX.out.2⟩
 case rest =>
  rename_i K hK
  refine hK _ _ ?_
  clear hK K
  obtain⟨rfl,hnd,hbw⟩:=hcut
  generalize wc=w2 at *
  have HX2:=Lib.hid (And.intro hnd hbw)
  clear hnd hbw HX0 HW
  go_upto_if 32 with fail
  go_cut [8] from 12 to 85 (fun v wx=>v=.string u∧ndNode wx w.heap.size ndZ∧Below w.heap.size w wx)
  case first =>
   cases M
   ·have HE:=HM'.out rfl
    go_wp2_with fail
    go_meet
    case rel=>exact⟨by rw[HE],HX2.out.1,HX2.out.2⟩
   ·have HE:=Lib.hid (HM.out rfl)
    go_wp2_with fail
    go_meet
    case rel=>exact⟨by rw[HE.out],HX2.out.1,HX2.out.2⟩
  case rest =>
   rename_i K hK
   refine hK _ _ ?_
   clear hK K
   obtain⟨rfl,hnd,hbw⟩:=hcut
   generalize wc=w3 at *
   have HX:=Lib.hid (And.intro hnd hbw)
   clear hnd hbw HX2 ht e0 hM HM HM' HU
   by_cases hu0:u.size=0
   ·have HR:Hid (R=(.nul,0,4)):=Lib.hid (by rw[HNP.out,if_pos (.inl (List.eq_nil_of_length_eq_zero (by rw[← HUL.out];exact hu0)))])
    have q0:((u.size:Int) == 0)=true:=by simp[hu0]
    clear hu0 huz
    go_wp2_with (first|(refine wpList_store_row rfl 101 _ _ rfl w.heap.size ndZ rfl rfl 101 ndZ HX.out.1 nd_size rfl ndZ_one ?_)|fail)
    rw[← HQQ.out];refine bodyPost_ret (results_nd rfl _ _ w.heap.size ndZ _ _ rfl rfl rfl (nd_put HX.out.1 ndZ rfl) rfl) rfl (ValE.bad (k:=0) HR.out rfl (below_setRow HX.out.2 (Nat.le_refl _) _))
   have hu1:0<u.size:=Nat.pos_of_ne_zero hu0
   have q0:((u.size:Int) == 0)=false:=beq_eq_false_iff_ne.2 (by omega)
   have hu2:(0:Int)<(u.size:Int):=by omega
   have hsu:=bI_split u 0 hu1
   obtain⟨c0,hc0⟩:∃ c0,((u[0]'hu1).toNat:Int)=c0:=⟨_,rfl⟩
   rw[hc0,List.drop_zero,HI.out] at hsu
   by_cases hbad:c0=48∧(1<u.size∨M=true)
   ·have HR:Hid (R=(.nul,0,4)):=Lib.hid (by rw[HNP.out,if_pos (.inr ⟨by rw[hsu,hbad.1];rfl,by rw[← HUL.out];exact hbad.2⟩)])
    obtain⟨hb1,hb2⟩:=hbad
    have q1:(c0 == 48)=true:=by simp[hb1]
    clear hsu hb1
    by_cases hu3:1<u.size
    ·have q2:decide (1<(u.size:Int))=true:=decide_eq_true (by omega)
     have q3:decide (1<u.size)=true:=decide_eq_true hu3
     have q4:(1:Int)<(u.size:Int):=by omega
     clear hb2
     go_wp2_with (first|(refine wpList_store_row rfl 101 _ _ rfl w.heap.size ndZ rfl rfl 101 ndZ HX.out.1 nd_size rfl ndZ_one ?_)|fail)
     rw[← HQQ.out];refine bodyPost_ret (results_nd rfl _ _ w.heap.size ndZ _ _ rfl rfl rfl (nd_put HX.out.1 ndZ rfl) rfl) rfl (ValE.bad (k:=0) HR.out rfl (below_setRow HX.out.2 (Nat.le_refl _) _))
    ·have q2:decide (1<(u.size:Int))=false:=decide_eq_false (by omega)
     have q3:decide (1<u.size)=false:=decide_eq_false hu3
     have q4:¬ (1:Int)<(u.size:Int):=by omega
     obtain rfl:M=true:=by rcases hb2 with h|h;exact absurd h hu3;exact h
     clear hb2
     go_wp2_with (first|(refine wpList_store_row rfl 101 _ _ rfl w.heap.size ndZ rfl rfl 101 ndZ HX.out.1 nd_size rfl ndZ_one ?_)|fail)
     rw[← HQQ.out];refine bodyPost_ret (results_nd rfl _ _ w.heap.size ndZ _ _ rfl rfl rfl (nd_put HX.out.1 ndZ rfl) rfl) rfl (ValE.bad (k:=0) HR.out rfl (below_setRow HX.out.2 (Nat.le_refl _) _))
   have hnb:¬ (U=[]∨U.head?=some 48∧(1<U.length∨M=true)):=by
    rintro(h|⟨h,h'⟩)
    ·have:=HUL.out;rw[h] at this;exact hu0 (by simpa using this)
    ·rw[hsu] at h
     simp at h
     exact hbad ⟨h,by rw[HUL.out];exact h'⟩
   have HN2:Hid (R=match scanD U 0 with
     | none=>((Js.nul,0,4):Js × Nat × Int)
     | some m=>if maxI<m then (Js.nul,0,11) else (Js.num (if M=true then - m else m),n,0)):=Lib.hid (HNP.out.trans (if_neg hnb))
   obtain⟨S,hS⟩:∃ S,scanD U 0=S:=⟨_,rfl⟩
   rw[hS] at HN2
   have HS0:Hid (scanD (U.drop 0) 0=S):=Lib.hid hS
   have hways:(c0 == 48)=false∨((c0 == 48)=true∧decide (1<(u.size:Int))=false∧M=false):=by
    by_cases h:c0=48
    ·refine .inr ⟨by simp[h],decide_eq_false (fun h2=>hbad ⟨h,.inl (by omega)⟩),?_⟩
     cases M
     ·rfl
     ·exact absurd ⟨h,.inr rfl⟩ hbad
    ·exact .inl (by simp[h])
   clear hbad hsu HNP hS hnb
   go_upto_region 8 with fail
   go_cut [50] from 12 to 85 (fun x wx=>x=.bool false∧ndNode wx w.heap.size ndZ∧Below w.heap.size w wx)
   case first =>
    rcases hways with q1|⟨q1,q2,rfl⟩
    ·go_wp2_with fail
     go_meet
     case rel=>exact⟨rfl,HX.out.1,HX.out.2⟩
    ·go_wp2_with fail
     go_meet
     case rel=>exact⟨rfl,HX.out.1,HX.out.2⟩
   case rest =>
    rename_i K hK
    refine hK _ _ ?_
    clear hK K
    obtain⟨rfl,hnd,hbw⟩:=hcut
    generalize wc=w4 at *
    clear HX
    have HX:=Lib.hid (And.intro hnd hbw)
    clear hnd hbw hways
    go_wp2_with fail
    go_loopw [10,11] (fun x i wr=>∃ (y:Int) (j:Nat),j≤u.size∧0≤y∧y≤90071992547409919∧x=.int .i64 y∧i=.int .i64 j∧Hid (scanD (U.drop j) y=S)∧ndNode wr w.heap.size ndZ∧Below w.heap.size w wr) (fun _ i _=>u.size - (intOf i).toNat)
    case atStart=>exact⟨0,0,Nat.zero_le _,Int.le_refl _,by omega,rfl,rfl,HS0,HX.out.1,HX.out.2⟩
    case round =>
     obtain⟨y,j,hj,hy0,hy1,rfl,rfl,HG,hnd,hbw⟩:=hrel
     have HX:=Lib.hid (And.intro hnd hbw)
     clear hnd hbw HS0
     by_cases hlt:j<u.size
     ·have hi0:(0:Int)≤(j:Int):=by omega
      have hi1:(j:Int)<(u.size:Int):=by omega
      have hsp:=bI_split u j hlt
      obtain⟨c,hcc⟩:∃ c,((u[j]'hlt).toNat:Int)=c:=⟨_,rfl⟩
      rw[hcc,HI.out] at hsp
      rw[hsp,scanD] at HG
      have HC:=Lib.hid (fun W=>HD.out c W)
      by_cases hcn:isD c=true
      ·rw[if_pos hcn] at HG
       rw[hcn] at HC
       have hcd:=(isD_iff c).1 hcn
       clear hsp hcn
       by_cases hm:y≤9007199254740991
       ·have HE:Hid (scanD (U.drop (j+1)) (10*y+c - 48)=S):=Lib.hid (by rw[← HG.out,if_pos (show y≤maxI from hm)])
        have k0:IntKind.i64.wrap (10*y)=10*y:=by rw[IntKind.wrap_i64] <;> omega
        have k1:IntKind.i64.wrap (10*y+c)=10*y+c:=by rw[IntKind.wrap_i64] <;> omega
        have k2:IntKind.i64.wrap (10*y+c - 48)=10*y+c - 48:=by rw[IntKind.wrap_i64] <;> omega
        have k3:IntKind.i64.wrap c=c:=by rw[IntKind.wrap_i64] <;> omega
        clear HG
        go_wp2_with fail
        refine(HC.out _).mono ?_
        rintro e w1 ⟨rfl,rfl⟩
        go_wp2_with fail
        go_roundw
        case rel=>exact⟨10*y+c - 48,j+1,by omega,by omega,by omega,rfl,by go_num,HE,HX.out.1,HX.out.2⟩
        case measure=>simp[intOf];omega
       ·have HE:Hid (scanD (U.drop (j+1)) y=S):=Lib.hid (by rw[← HG.out,if_neg (show ¬ y≤maxI from hm)])
        clear HG
        go_wp2_with fail
        refine(HC.out _).mono ?_
        rintro e w1 ⟨rfl,rfl⟩
        go_wp2_with fail
        go_roundw
        case rel=>exact⟨y,j+1,by omega,hy0,hy1,rfl,by go_num,HE,HX.out.1,HX.out.2⟩
        case measure=>simp[intOf];omega
      ·rw[if_neg hcn] at HG
       have hcn:isD c=false:=by simpa using hcn
       rw[hcn] at HC
       have HR:Hid (R=(.nul,0,4)):=Lib.hid (by rw[HN2.out,← HG.out])
       clear hsp hcn HG
       go_wp2_with fail
       refine(HC.out _).mono ?_
       rintro e w1 ⟨rfl,rfl⟩
       go_wp2_with (first|(refine wpList_store_row rfl 101 _ _ rfl w.heap.size ndZ rfl rfl 101 ndZ HX.out.1 nd_size rfl ndZ_one ?_)|fail)
       rw[← HQQ.out];refine bodyPost_ret (results_nd rfl _ _ w.heap.size ndZ _ _ rfl rfl rfl (nd_put HX.out.1 ndZ rfl) rfl) rfl (ValE.bad (k:=0) HR.out rfl (below_setRow HX.out.2 (Nat.le_refl _) _))
     ·obtain rfl:j=u.size:=by omega
      have HE:Hid (R=if maxI<y then (.nul,0,11) else (.num (if M=true then - y else y),n,0)):=Lib.hid (by rw[HN2.out,← HG.out,List.drop_eq_nil_of_le (by rw[← HUL.out];exact Nat.le_refl _)];rfl)
      clear HG
      by_cases hm:9007199254740991<y
      ·have HR:Hid (R=(.nul,0,11)):=Lib.hid (by rw[HE.out,if_pos (show maxI<y from hm)])
       go_wp2_with (first|(refine wpList_store_row rfl 101 _ _ rfl w.heap.size ndZ rfl rfl 101 ndZ HX.out.1 nd_size rfl ndZ_one ?_)|fail)
       rw[← HQQ.out];refine bodyPost_ret (results_nd rfl _ _ w.heap.size ndZ _ _ rfl rfl rfl (nd_put HX.out.1 ndZ rfl) rfl) rfl (ValE.bad (k:=0) HR.out rfl (below_setRow HX.out.2 (Nat.le_refl _) _))
      ·have hE2:=HE.out
       rw[if_neg (show ¬ maxI<y from hm)] at hE2
       have HR:=Lib.hid hE2
       clear hE2 HE
       have k0:IntKind.i64.wrap (-y)=-y:=by rw[IntKind.wrap_i64] <;> omega
       cases M
       ·go_wp2_with (first|(refine wpList_store_row rfl 101 _ _ rfl w.heap.size (NdK 3 y { data:=#[] }) rfl rfl 101 ndZ HX.out.1 nd_size rfl (nd_one _ _ _) ?_)|fail)
        rw[← HQQ.out];refine bodyPost_ret (results_nd rfl _ _ w.heap.size (NdK 3 y { data:=#[] }) (.int .i64 (z:Int)) (.int .i64 0) rfl rfl rfl (nd_put HX.out.1 (NdK 3 y { data:=#[] }) rfl) rfl) rfl (ValE.good (v:=.num y) HR.out hZs.out.2 (.k _ _ _) (below_setRow HX.out.2 (Nat.le_refl _) _))
       ·go_wp2_with (first|(refine wpList_store_row rfl 101 _ _ rfl w.heap.size (NdK 3 (-y) { data:=#[] }) rfl rfl 101 ndZ HX.out.1 nd_size rfl (nd_one _ _ _) ?_)|fail)
        rw[← HQQ.out];refine bodyPost_ret (results_nd rfl _ _ w.heap.size (NdK 3 (-y) { data:=#[] }) (.int .i64 (z:Int)) (.int .i64 0) rfl rfl rfl (nd_put HX.out.1 (NdK 3 (-y) { data:=#[] }) rfl) rfl) rfl (ValE.good (v:=.num (-y)) HR.out hZs.out.2 (.k _ _ _) (below_setRow HX.out.2 (Nat.le_refl _) _))
theorem rword_val (s:ByteArray) (p:Nat) (t:ByteArray) (v:Js) (k:Int) (wd:List Int) (hwd:bI t=wd) (hk:kindV v=k) (w:World) (hs:s.size≤1000000) (hp:p≤s.size) (ht:t.size≤1000) :
  Calls Tryz.prog 170 #[.string s,.int .i64 p,.string t,.int .u8 k] w (ValE (wordP wd v ((bI s).drop p)) p w):=by
 refine(rword_any s p t k w hs hp ht).mono ?_
 rintro e w' ⟨rfl,hb⟩
 rw[hwd]
 unfold wordP
 by_cases h:(wordG wd ((bI s).drop p) 0).2=0
 ·rw[if_pos h,if_pos h,h]
  exact⟨_,by show NdAny (if (0:Int)=0 then kindV v else 0) _;rw[if_pos rfl,hk];exact .k _ _ _,rfl,hb⟩
 ·rw[if_neg h,if_neg h]
  exact⟨_,by show NdAny (if _ then kindV Js.nul else 0) _;rw[if_neg h];exact .z,rfl,hb⟩
theorem ValE.pass {R:Js × Nat × Int} {p z:Nat} {e1:Int} {w w':World} {cs:Array Value} (hn:NdAny (if R.2.2=0 then kindV R.1 else 0) cs) (hz:p+R.2.1=z) (he:R.2.2=e1) (hb:Below w.heap.size w w'):ValE R p w (.returned (.tuple #[.agg cs,.int .i64 (z:Int),.int .i64 e1])) w':=by
 subst hz;subst he;exact⟨cs,hn,rfl,hb⟩
set_option maxHeartbeats 8000000 in
theorem value_step (g:Nat) (HT:ValOk g):ValOk (g+1):=by
 intro d s p w hp hs hg hd
 have hlen:=bI_len s
 have HX0:=Lib.hid (And.intro (show ndNode (w.alloc (.cells ndZ 101)) w.heap.size ndZ from heap_new w _) (below_oneC w (.cells ndZ 101)))
 unfold ndZ at HX0
 obtain⟨R,hR⟩:∃ R,valueP (g+1) d ((bI s).drop p)=R:=⟨_,rfl⟩
 rw[hR]
 by_cases he:p=s.size
 ·have HR:Hid (R=(.nul,0,3)):=Lib.hid (by rw[← hR,List.drop_of_length_le (by omega),valueP])
  have q2:((p:Int) == (s.size:Int))=true:=by rw[beq_iff_eq];omega
  clear hR he HT
  go_enter Tryz.func103,Tryz.ntmps103
  generalize hQQ:bodyPost Tryz.prog Tryz.f103 (ValE R p w)=QQ
  have HQQ:=Lib.hid hQQ
  clear hQQ
  go_wp2_with (first|(refine wpList_store_row rfl 101 _ _ rfl w.heap.size ndZ rfl rfl 101 ndZ HX0.out.1 nd_size rfl ndZ_one ?_)|fail)
  rw[← HQQ.out];refine bodyPost_ret (results_nd rfl _ _ w.heap.size ndZ (.int .i64 (p:Int)) (.int .i64 3) rfl rfl rfl (nd_put HX0.out.1 ndZ rfl) rfl) rfl (ValE.bad (k:=0) HR.out rfl (below_setRow HX0.out.2 (Nat.le_refl _) _))
 have hlt:p<s.size:=by omega
 have q2:((p:Int) == (s.size:Int))=false:=beq_eq_false_iff_ne.2 (by omega)
 have q3:(p:Int)<(s.size:Int):=by omega
 have q4:(0:Int)≤(p:Int):=by omega
 have hsp:=bI_split s p hlt
 obtain⟨b,hbv⟩:∃ b:Int,((s[p]'hlt).toNat:Int)=b:=⟨_,rfl⟩
 rw[hbv] at hsp
 have hR2:=hR
 rw[hsp,valueP,← hsp] at hR2
 by_cases h110:b=110
 ·rw[if_pos h110] at hR2
  have HC:=Lib.hid (fun W=>rword_val s p { data:=#[110,117,108,108] } (.nul) 0 [110,117,108,108] rfl rfl W (by omega) hp (by decide))
  rw[hR2] at HC
  unfold ValE at HC
  have f110:(b == 110)=true:=by rw[beq_iff_eq];exact h110
  clear hR hR2 hsp h110 HT he
  go_enter Tryz.func103,Tryz.ntmps103
  generalize hQQ:bodyPost Tryz.prog Tryz.f103 (ValE R p w)=QQ
  have HQQ:=Lib.hid hQQ
  clear hQQ
  go_wp2_with fail
  refine(HC.out _).mono ?_
  rintro e w1 ⟨cs,hcs,rfl,hb⟩
  have HN:Hid (ndNode w1 w.heap.size ndZ):=Lib.hid ((hb.block _ (nd_lt HX0.out.1)).trans HX0.out.1)
  have HB:=Lib.hid (HX0.out.2.trans (hb.mono HX0.out.2.size))
  obtain⟨z,hz⟩:∃ z,p+R.2.1=z:=⟨_,rfl⟩
  obtain⟨e1,he1⟩:∃ e1,R.2.2=e1:=⟨_,rfl⟩
  have hsz:=hcs.size
  have hone:=hcs.one
  have HPS:=Lib.hid (fun(w':World) (hb:Below w.heap.size w w')=>ValE.pass (w:=w) (w':=w') hcs hz he1 hb)
  have HSZ:Hid ((Tryz.prog.info? 101).map (·.size)=some cs.size∧5=cs.size):=Lib.hid ⟨by rw[nd_size,hsz],hsz.symm⟩
  rw[hz,he1]
  clear hb hcs hz he1 hsz
  go_wp2_with (first|(refine wpList_store_row rfl 101 _ _ rfl w.heap.size cs rfl rfl 101 ndZ HN.out HSZ.out.1 HSZ.out.2 hone ?_)|fail)
  rw[← HQQ.out];refine bodyPost_ret (results_nd rfl _ _ w.heap.size cs (.int .i64 (z:Int)) (.int .i64 e1) rfl rfl rfl (nd_put HN.out cs HSZ.out.2.symm) HSZ.out.2.symm) rfl (HPS.out _ (below_setRow HB.out (Nat.le_refl _) _))
 have f110:(b == 110)=false:=beq_eq_false_iff_ne.2 h110
 rw[if_neg h110] at hR2
 by_cases h102:b=102
 ·rw[if_pos h102] at hR2
  have HC:=Lib.hid (fun W=>rword_val s p { data:=#[102,97,108,115,101] } (.bool false) 1 [102,97,108,115,101] rfl rfl W (by omega) hp (by decide))
  rw[hR2] at HC
  unfold ValE at HC
  have f102:(b == 102)=true:=by rw[beq_iff_eq];exact h102
  clear hR hR2 hsp h102 HT he
  go_enter Tryz.func103,Tryz.ntmps103
  generalize hQQ:bodyPost Tryz.prog Tryz.f103 (ValE R p w)=QQ
  have HQQ:=Lib.hid hQQ
  clear hQQ
  go_wp2_with fail
  refine(HC.out _).mono ?_
  rintro e w1 ⟨cs,hcs,rfl,hb⟩
  have HN:Hid (ndNode w1 w.heap.size ndZ):=Lib.hid ((hb.block _ (nd_lt HX0.out.1)).trans HX0.out.1)
  have HB:=Lib.hid (HX0.out.2.trans (hb.mono HX0.out.2.size))
  obtain⟨z,hz⟩:∃ z,p+R.2.1=z:=⟨_,rfl⟩
  obtain⟨e1,he1⟩:∃ e1,R.2.2=e1:=⟨_,rfl⟩
  have hsz:=hcs.size
  have hone:=hcs.one
  have HPS:=Lib.hid (fun(w':World) (hb:Below w.heap.size w w')=>ValE.pass (w:=w) (w':=w') hcs hz he1 hb)
  have HSZ:Hid ((Tryz.prog.info? 101).map (·.size)=some cs.size∧5=cs.size):=Lib.hid ⟨by rw[nd_size,hsz],hsz.symm⟩
  rw[hz,he1]
  clear hb hcs hz he1 hsz
  go_wp2_with (first|(refine wpList_store_row rfl 101 _ _ rfl w.heap.size cs rfl rfl 101 ndZ HN.out HSZ.out.1 HSZ.out.2 hone ?_)|fail)
  rw[← HQQ.out];refine bodyPost_ret (results_nd rfl _ _ w.heap.size cs (.int .i64 (z:Int)) (.int .i64 e1) rfl rfl rfl (nd_put HN.out cs HSZ.out.2.symm) HSZ.out.2.symm) rfl (HPS.out _ (below_setRow HB.out (Nat.le_refl _) _))
 have f102:(b == 102)=false:=beq_eq_false_iff_ne.2 h102
 rw[if_neg h102] at hR2
 by_cases h116:b=116
 ·rw[if_pos h116] at hR2
  have HC:=Lib.hid (fun W=>rword_val s p { data:=#[116,114,117,101] } (.bool true) 2 [116,114,117,101] rfl rfl W (by omega) hp (by decide))
  rw[hR2] at HC
  unfold ValE at HC
  have f116:(b == 116)=true:=by rw[beq_iff_eq];exact h116
  clear hR hR2 hsp h116 HT he
  go_enter Tryz.func103,Tryz.ntmps103
  generalize hQQ:bodyPost Tryz.prog Tryz.f103 (ValE R p w)=QQ
  have HQQ:=Lib.hid hQQ
  clear hQQ
  go_wp2_with fail
  refine(HC.out _).mono ?_
  rintro e w1 ⟨cs,hcs,rfl,hb⟩
  have HN:Hid (ndNode w1 w.heap.size ndZ):=Lib.hid ((hb.block _ (nd_lt HX0.out.1)).trans HX0.out.1)
  have HB:=Lib.hid (HX0.out.2.trans (hb.mono HX0.out.2.size))
  obtain⟨z,hz⟩:∃ z,p+R.2.1=z:=⟨_,rfl⟩
  obtain⟨e1,he1⟩:∃ e1,R.2.2=e1:=⟨_,rfl⟩
  have hsz:=hcs.size
  have hone:=hcs.one
  have HPS:=Lib.hid (fun(w':World) (hb:Below w.heap.size w w')=>ValE.pass (w:=w) (w':=w') hcs hz he1 hb)
  have HSZ:Hid ((Tryz.prog.info? 101).map (·.size)=some cs.size∧5=cs.size):=Lib.hid ⟨by rw[nd_size,hsz],hsz.symm⟩
  rw[hz,he1]
  clear hb hcs hz he1 hsz
  go_wp2_with (first|(refine wpList_store_row rfl 101 _ _ rfl w.heap.size cs rfl rfl 101 ndZ HN.out HSZ.out.1 HSZ.out.2 hone ?_)|fail)
  rw[← HQQ.out];refine bodyPost_ret (results_nd rfl _ _ w.heap.size cs (.int .i64 (z:Int)) (.int .i64 e1) rfl rfl rfl (nd_put HN.out cs HSZ.out.2.symm) HSZ.out.2.symm) rfl (HPS.out _ (below_setRow HB.out (Nat.le_refl _) _))
 have f116:(b == 116)=false:=beq_eq_false_iff_ne.2 h116
 rw[if_neg h116] at hR2
 by_cases h34:b=34
 ·rw[if_pos h34] at hR2
  have HJ:=Lib.hid (fun W=>rtake16_any s p W (by omega) hp)
  obtain⟨X,hX⟩:∃ X,textP ((bI s).drop p)=X:=⟨_,rfl⟩
  rw[hX] at HJ hR2
  obtain⟨name,n,e0⟩:=X
  simp only at HJ hR2
  obtain⟨z,hz⟩:∃ z,p+n=z:=⟨_,rfl⟩
  rw[hz] at HJ
  have HZ:=Lib.hid hz
  have f34:(b == 34)=true:=by rw[beq_iff_eq];exact h34
  by_cases he0:e0=0
  ·subst he0
   have HR:Hid (R=(.str name,n,0)):=Lib.hid (by rw[← hR2,if_pos rfl])
   clear hR hR2 hX hz hsp h34 HT he
   go_enter Tryz.func103,Tryz.ntmps103
   generalize hQQ:bodyPost Tryz.prog Tryz.f103 (ValE R p w)=QQ
   have HQQ:=Lib.hid hQQ
   clear hQQ
   go_wp2_with fail
   refine(HJ.out _).mono ?_
   rintro e w1 ⟨rfl,hb⟩
   have HN:Hid (ndNode w1 w.heap.size ndZ):=Lib.hid ((hb.block _ (nd_lt HX0.out.1)).trans HX0.out.1)
   have HB:=Lib.hid (HX0.out.2.trans (hb.mono HX0.out.2.size))
   clear hb
   go_wp2_with (first|(refine wpList_store_row rfl 101 _ _ rfl w.heap.size (NdK 4 0 (str name)) rfl rfl 101 ndZ HN.out nd_size rfl (nd_one _ _ _) ?_)|fail)
   rw[← HQQ.out];refine bodyPost_ret (results_nd rfl _ _ w.heap.size (NdK 4 0 (str name)) (.int .i64 (z:Int)) (.int .i64 0) rfl rfl rfl (nd_put HN.out (NdK 4 0 (str name)) rfl) rfl) rfl (ValE.good HR.out HZ.out (.k _ _ _) (below_setRow HB.out (Nat.le_refl _) _))
  ·have HR:Hid (R=(.nul,n,e0)):=Lib.hid (by rw[← hR2,if_neg he0])
   have j0:(e0 != 0)=true:=bne_iff_ne.2 he0
   clear hR hR2 hX hz hsp h34 HT he he0
   go_enter Tryz.func103,Tryz.ntmps103
   generalize hQQ:bodyPost Tryz.prog Tryz.f103 (ValE R p w)=QQ
   have HQQ:=Lib.hid hQQ
   clear hQQ
   go_wp2_with fail
   refine(HJ.out _).mono ?_
   rintro e w1 ⟨rfl,hb⟩
   have HN:Hid (ndNode w1 w.heap.size ndZ):=Lib.hid ((hb.block _ (nd_lt HX0.out.1)).trans HX0.out.1)
   have HB:=Lib.hid (HX0.out.2.trans (hb.mono HX0.out.2.size))
   clear hb
   go_wp2_with (first|(refine wpList_store_row rfl 101 _ _ rfl w.heap.size ndZ rfl rfl 101 ndZ HN.out nd_size rfl ndZ_one ?_)|fail)
   rw[← HQQ.out];refine bodyPost_ret (results_nd rfl _ _ w.heap.size ndZ (.int .i64 (z:Int)) (.int .i64 e0) rfl rfl rfl (nd_put HN.out ndZ rfl) rfl) rfl (ValE.bad HR.out HZ.out (below_setRow HB.out (Nat.le_refl _) _))
 have f34:(b == 34)=false:=beq_eq_false_iff_ne.2 h34
 rw[if_neg h34] at hR2
 have HTT:∀ g' q,p<q→q≤s.size→2*(s.size - q)+1≤g'→ValAt g' s q:=fun g' q h1 h2 h3=>HT.at hs (by omega) h3
 by_cases h91:b=91
 ·have HC:=Lib.hid (fun W=>ritems_any g s p d 91 5 93 W (by simp) (by omega) hs hlt (by rw[hsp,h91]) (by omega) HTT hd)
  rw[hR] at HC
  unfold ValE NdK at HC
  have f91:(b == 91)=true:=by rw[beq_iff_eq];exact h91
  clear hR hR2 hsp h91 HT HTT he
  go_enter Tryz.func103,Tryz.ntmps103
  generalize hQQ:bodyPost Tryz.prog Tryz.f103 (ValE R p w)=QQ
  have HQQ:=Lib.hid hQQ
  clear hQQ
  go_wp2_with fail
  refine(HC.out _).mono ?_
  rintro e w1 ⟨cs,hcs,rfl,hb⟩
  have HN:Hid (ndNode w1 w.heap.size ndZ):=Lib.hid ((hb.block _ (nd_lt HX0.out.1)).trans HX0.out.1)
  have HB:=Lib.hid (HX0.out.2.trans (hb.mono HX0.out.2.size))
  obtain⟨z,hz⟩:∃ z,p+R.2.1=z:=⟨_,rfl⟩
  obtain⟨e1,he1⟩:∃ e1,R.2.2=e1:=⟨_,rfl⟩
  have hsz:=hcs.size
  have hone:=hcs.one
  have HPS:=Lib.hid (fun(w':World) (hb:Below w.heap.size w w')=>ValE.pass (w:=w) (w':=w') hcs hz he1 hb)
  have HSZ:Hid ((Tryz.prog.info? 101).map (·.size)=some cs.size∧5=cs.size):=Lib.hid ⟨by rw[nd_size,hsz],hsz.symm⟩
  rw[hz,he1]
  clear hb hcs hz he1 hsz
  go_wp2_with (first|(refine wpList_store_row rfl 101 _ _ rfl w.heap.size cs rfl rfl 101 ndZ HN.out HSZ.out.1 HSZ.out.2 hone ?_)|fail)
  rw[← HQQ.out];refine bodyPost_ret (results_nd rfl _ _ w.heap.size cs (.int .i64 (z:Int)) (.int .i64 e1) rfl rfl rfl (nd_put HN.out cs HSZ.out.2.symm) HSZ.out.2.symm) rfl (HPS.out _ (below_setRow HB.out (Nat.le_refl _) _))
 have f91:(b == 91)=false:=beq_eq_false_iff_ne.2 h91
 by_cases h123:b=123
 ·have HC:=Lib.hid (fun W=>ritems_any g s p d 123 6 125 W (by simp) (by omega) hs hlt (by rw[hsp,h123]) (by omega) HTT hd)
  rw[hR] at HC
  unfold ValE NdK at HC
  have f123:(b == 123)=true:=by rw[beq_iff_eq];exact h123
  clear hR hR2 hsp h123 HT HTT he
  go_enter Tryz.func103,Tryz.ntmps103
  generalize hQQ:bodyPost Tryz.prog Tryz.f103 (ValE R p w)=QQ
  have HQQ:=Lib.hid hQQ
  clear hQQ
  go_wp2_with fail
  refine(HC.out _).mono ?_
  rintro e w1 ⟨cs,hcs,rfl,hb⟩
  have HN:Hid (ndNode w1 w.heap.size ndZ):=Lib.hid ((hb.block _ (nd_lt HX0.out.1)).trans HX0.out.1)
  have HB:=Lib.hid (HX0.out.2.trans (hb.mono HX0.out.2.size))
  obtain⟨z,hz⟩:∃ z,p+R.2.1=z:=⟨_,rfl⟩
  obtain⟨e1,he1⟩:∃ e1,R.2.2=e1:=⟨_,rfl⟩
  have hsz:=hcs.size
  have hone:=hcs.one
  have HPS:=Lib.hid (fun(w':World) (hb:Below w.heap.size w w')=>ValE.pass (w:=w) (w':=w') hcs hz he1 hb)
  have HSZ:Hid ((Tryz.prog.info? 101).map (·.size)=some cs.size∧5=cs.size):=Lib.hid ⟨by rw[nd_size,hsz],hsz.symm⟩
  rw[hz,he1]
  clear hb hcs hz he1 hsz
  go_wp2_with (first|(refine wpList_store_row rfl 101 _ _ rfl w.heap.size cs rfl rfl 101 ndZ HN.out HSZ.out.1 HSZ.out.2 hone ?_)|fail)
  rw[← HQQ.out];refine bodyPost_ret (results_nd rfl _ _ w.heap.size cs (.int .i64 (z:Int)) (.int .i64 e1) rfl rfl rfl (nd_put HN.out cs HSZ.out.2.symm) HSZ.out.2.symm) rfl (HPS.out _ (below_setRow HB.out (Nat.le_refl _) _))
 have f123:(b == 123)=false:=beq_eq_false_iff_ne.2 h123
 rw[if_neg (by omega)] at hR2
 have HD:Hid (∀ c W,Calls Tryz.prog 173 #[.int .u8 c,.string digBz] W fun e w'=>e=.returned (.bool (isD c))∧W=w'):=Lib.hid (fun c W=>by have:=rwithin_any c digBz W (by decide);rwa[inL_dig] at this)
 unfold digBz at HD
 by_cases h45:b=45
 ·rw[if_pos (.inl h45)] at hR2
  have HC:=Lib.hid (fun W=>rnumber_any s p W (by omega) hlt (by rw[hbv,h45];rfl))
  rw[hR2] at HC
  unfold ValE at HC
  have f45:(b == 45)=true:=by rw[beq_iff_eq];exact h45
  clear hR hR2 hsp h45 HT HTT HD he
  go_enter Tryz.func103,Tryz.ntmps103
  generalize hQQ:bodyPost Tryz.prog Tryz.f103 (ValE R p w)=QQ
  have HQQ:=Lib.hid hQQ
  clear hQQ
  go_wp2_with fail
  refine(HC.out _).mono ?_
  rintro e w1 ⟨cs,hcs,rfl,hb⟩
  have HN:Hid (ndNode w1 w.heap.size ndZ):=Lib.hid ((hb.block _ (nd_lt HX0.out.1)).trans HX0.out.1)
  have HB:=Lib.hid (HX0.out.2.trans (hb.mono HX0.out.2.size))
  obtain⟨z,hz⟩:∃ z,p+R.2.1=z:=⟨_,rfl⟩
  obtain⟨e1,he1⟩:∃ e1,R.2.2=e1:=⟨_,rfl⟩
  have hsz:=hcs.size
  have hone:=hcs.one
  have HPS:=Lib.hid (fun(w':World) (hb:Below w.heap.size w w')=>ValE.pass (w:=w) (w':=w') hcs hz he1 hb)
  have HSZ:Hid ((Tryz.prog.info? 101).map (·.size)=some cs.size∧5=cs.size):=Lib.hid ⟨by rw[nd_size,hsz],hsz.symm⟩
  rw[hz,he1]
  clear hb hcs hz he1 hsz
  go_wp2_with (first|(refine wpList_store_row rfl 101 _ _ rfl w.heap.size cs rfl rfl 101 ndZ HN.out HSZ.out.1 HSZ.out.2 hone ?_)|fail)
  rw[← HQQ.out];refine bodyPost_ret (results_nd rfl _ _ w.heap.size cs (.int .i64 (z:Int)) (.int .i64 e1) rfl rfl rfl (nd_put HN.out cs HSZ.out.2.symm) HSZ.out.2.symm) rfl (HPS.out _ (below_setRow HB.out (Nat.le_refl _) _))
 have f45:(b == 45)=false:=beq_eq_false_iff_ne.2 h45
 have HDB:=Lib.hid (fun W=>HD.out b W)
 by_cases hdg:isD b=true
 ·rw[if_pos (.inr hdg)] at hR2
  have hdd:=(isD_iff b).1 hdg
  have HC:=Lib.hid (fun W=>rnumber_any s p W (by omega) hlt (by rw[hbv];unfold isN;simp;omega))
  rw[hR2] at HC
  rw[hdg] at HDB
  unfold ValE at HC
  clear hR hR2 hsp h45 HT HTT HD he hdg hdd
  go_enter Tryz.func103,Tryz.ntmps103
  generalize hQQ:bodyPost Tryz.prog Tryz.f103 (ValE R p w)=QQ
  have HQQ:=Lib.hid hQQ
  clear hQQ
  go_wp2_with fail
  refine(HDB.out _).mono ?_
  rintro e wz ⟨rfl,rfl⟩
  go_wp2_with fail
  refine(HC.out _).mono ?_
  rintro e w1 ⟨cs,hcs,rfl,hb⟩
  have HN:Hid (ndNode w1 w.heap.size ndZ):=Lib.hid ((hb.block _ (nd_lt HX0.out.1)).trans HX0.out.1)
  have HB:=Lib.hid (HX0.out.2.trans (hb.mono HX0.out.2.size))
  obtain⟨z,hz⟩:∃ z,p+R.2.1=z:=⟨_,rfl⟩
  obtain⟨e1,he1⟩:∃ e1,R.2.2=e1:=⟨_,rfl⟩
  have hsz:=hcs.size
  have hone:=hcs.one
  have HPS:=Lib.hid (fun(w':World) (hb:Below w.heap.size w w')=>ValE.pass (w:=w) (w':=w') hcs hz he1 hb)
  have HSZ:Hid ((Tryz.prog.info? 101).map (·.size)=some cs.size∧5=cs.size):=Lib.hid ⟨by rw[nd_size,hsz],hsz.symm⟩
  rw[hz,he1]
  clear hb hcs hz he1 hsz
  go_wp2_with (first|(refine wpList_store_row rfl 101 _ _ rfl w.heap.size cs rfl rfl 101 ndZ HN.out HSZ.out.1 HSZ.out.2 hone ?_)|fail)
  rw[← HQQ.out];refine bodyPost_ret (results_nd rfl _ _ w.heap.size cs (.int .i64 (z:Int)) (.int .i64 e1) rfl rfl rfl (nd_put HN.out cs HSZ.out.2.symm) HSZ.out.2.symm) rfl (HPS.out _ (below_setRow HB.out (Nat.le_refl _) _))
 ·rw[if_neg (by rintro(h|h);exact h45 h;exact hdg h)] at hR2
  have hdg:isD b=false:=by simpa using hdg
  rw[hdg] at HDB
  have HR:Hid (R=(.nul,0,4)):=Lib.hid hR2.symm
  clear hR hR2 hsp h45 HT HTT HD he hdg
  go_enter Tryz.func103,Tryz.ntmps103
  generalize hQQ:bodyPost Tryz.prog Tryz.f103 (ValE R p w)=QQ
  have HQQ:=Lib.hid hQQ
  clear hQQ
  go_wp2_with fail
  refine(HDB.out _).mono ?_
  rintro e wz ⟨rfl,rfl⟩
  go_wp2_with (first|(refine wpList_store_row rfl 101 _ _ rfl w.heap.size ndZ rfl rfl 101 ndZ HX0.out.1 nd_size rfl ndZ_one ?_)|fail)
  rw[← HQQ.out];refine bodyPost_ret (results_nd rfl _ _ w.heap.size ndZ (.int .i64 (p:Int)) (.int .i64 4) rfl rfl rfl (nd_put HX0.out.1 ndZ rfl) rfl) rfl (ValE.bad (k:=0) HR.out rfl (below_setRow HX0.out.2 (Nat.le_refl _) _))
theorem value_any:∀ g,ValOk g
 | 0=>fun d s p w hp hs hg hd=>by omega
 | g+1=>value_step g (value_any g)
set_option maxHeartbeats 8000000 in
theorem rtake17_any (s:ByteArray) (w:World) (hs:s.size≤1000000):Calls Tryz.prog 42 #[.string s] w (ValE (takeV (bI s)) 0 w):=by
 have hlen:=bI_len s
 have HX0:=Lib.hid (And.intro (show ndNode (w.alloc (.cells ndZ 101)) w.heap.size ndZ from heap_new w _) (below_oneC w (.cells ndZ 101)))
 unfold ndZ at HX0
 obtain⟨R,hR⟩:∃ R,takeV (bI s)=R:=⟨_,rfl⟩
 rw[hR]
 unfold takeV at hR
 rw[hlen] at hR
 by_cases h4:4096<s.size
 ·rw[if_pos h4] at hR
  have HR:Hid (R=(.nul,0,5)):=Lib.hid hR.symm
  have q1:decide (4096<(s.size:Int))=true:=decide_eq_true (by omega)
  clear hR
  go_enter Tryz.func42,Tryz.ntmps42
  generalize hQQ:bodyPost Tryz.prog Tryz.f42 (ValE R 0 w)=QQ
  have HQQ:=Lib.hid hQQ
  clear hQQ
  go_wp2_with (first|(refine wpList_store_row rfl 101 _ _ rfl w.heap.size ndZ rfl rfl 101 ndZ HX0.out.1 nd_size rfl ndZ_one ?_)|fail)
  rw[← HQQ.out];refine bodyPost_ret (results_nd rfl _ _ w.heap.size ndZ (.int .i64 0) (.int .i64 5) rfl rfl rfl (nd_put HX0.out.1 ndZ rfl) rfl) rfl (ValE.bad (z:=0) (k:=0) HR.out rfl (below_setRow HX0.out.2 (Nat.le_refl _) _))
 rw[if_neg h4] at hR
 have q1:decide (4096<(s.size:Int))=false:=decide_eq_false (by omega)
 obtain⟨p0,hp0⟩:∃ p0,blankN (bI s)=p0:=⟨_,rfl⟩
 have hpl:=blank_le (bI s)
 rw[hp0,hlen] at hpl
 have HBL:Hid (∀ W,Calls Tryz.prog 104 #[.string s,.int .i64 0] W fun e w'=>e=.returned (.int .i64 (p0:Int))∧W=w'):=Lib.hid (fun W=>by have h:=rblank_any s 0 W (by omega) (Nat.zero_le _);rw[List.drop_zero,Nat.zero_add,hp0] at h;exact h)
 have HV:Hid (∀ W,Calls Tryz.prog 103 #[.string s,.int .i64 p0,.int .i64 1] W (ValE (valueP (fuelV (bI s)) 1 ((bI s).drop p0)) p0 W)):=Lib.hid (fun W=>value_any (fuelV (bI s)) 1 s p0 W hpl (by omega) (by unfold fuelV;omega) (by omega))
 have hvl:=((within (fuelV (bI s))).1 1 ((bI s).drop p0)).1
 rw[List.length_drop,hlen] at hvl
 rw[hp0] at hR
 obtain⟨V,hV⟩:∃ V,valueP (fuelV (bI s)) 1 ((bI s).drop p0)=V:=⟨_,rfl⟩
 rw[hV] at HV hR hvl
 obtain⟨jv,n,e1⟩:=V
 simp only at hR hvl
 unfold ValE at HV
 simp only at HV
 obtain⟨n1,hn1⟩:∃ n1,p0+n=n1:=⟨_,rfl⟩
 rw[hn1] at HV hR
 have hn1s:n1≤s.size:=by omega
 have HB2:=Lib.hid (fun W=>rblank_any s n1 W (by omega) hn1s)
 obtain⟨m,hm⟩:∃ m,n1+blankN ((bI s).drop n1)=m:=⟨_,rfl⟩
 rw[hm] at HB2 hR
 have hbm:=blank_le ((bI s).drop n1)
 rw[List.length_drop,hlen] at hbm
 have hms:m≤s.size:=by omega
 clear hV hn1 hm hbm hvl hp0 hpl
 go_enter Tryz.func42,Tryz.ntmps42
 generalize hQQ:bodyPost Tryz.prog Tryz.f42 (ValE R 0 w)=QQ
 have HQQ:=Lib.hid hQQ
 clear hQQ
 go_wp2_with fail
 refine(HBL.out _).mono ?_
 rintro e wz ⟨rfl,rfl⟩
 go_wp2_with fail
 refine(HV.out _).mono ?_
 rintro e w1 ⟨cs,hcs,rfl,hb⟩
 have HN1:Hid (ndNode w1 w.heap.size ndZ):=Lib.hid ((hb.block _ (nd_lt HX0.out.1)).trans HX0.out.1)
 have HB1:=Lib.hid (HX0.out.2.trans (hb.mono HX0.out.2.size))
 have HCS:=Lib.hid hcs
 obtain⟨W2,hW2⟩:∃ W2,(w1.alloc (.cells ndZ 101)).setRow w1.heap.size cs=W2:=⟨_,rfl⟩
 have hN2:ndNode W2 w1.heap.size cs:=by rw[← hW2];exact nd_put (heap_new w1 _) cs hcs.size
 have hB2:Below w1.heap.size w1 W2:=by rw[← hW2];exact below_setRow (below_oneC w1 _) (Nat.le_refl _) _
 have HN2:=Lib.hid hN2
 have HN:Hid (ndNode W2 w.heap.size ndZ):=Lib.hid ((hB2.block _ (nd_lt HN1.out)).trans HN1.out)
 have HB:=Lib.hid (HB1.out.trans (hB2.mono HB1.out.size))
 have hone:=hcs.one
 have HSZ:Hid ((Tryz.prog.info? 101).map (·.size)=some cs.size∧5=cs.size):=Lib.hid ⟨by rw[nd_size,hcs.size],hcs.size.symm⟩
 unfold ndZ at hW2
 clear hb hN2 hB2 hcs
 go_upto_region 4 with (first|(refine wpList_store_row rfl 101 _ _ rfl w1.heap.size cs rfl rfl 101 ndZ (heap_new w1 _) HSZ.out.1 HSZ.out.2 hone ?_)|fail)
 by_cases he1:e1=0
 ·subst he1
  rw[if_neg (by simp)] at hR
  by_cases hml:m<s.size
  ·rw[if_pos hml] at hR
   have HR:Hid (R=(.nul,m,4)):=Lib.hid hR.symm
   have j1:(m:Int)<(s.size:Int):=by omega
   clear hR hml
   go_wp2_with fail
   refine(HB2.out _).mono ?_
   rintro e wz ⟨rfl,rfl⟩
   go_wp2_with (first|(refine wpList_store_row rfl 101 _ _ rfl w.heap.size ndZ rfl rfl 101 ndZ HN.out nd_size rfl ndZ_one ?_)|fail)
   rw[← HQQ.out];refine bodyPost_ret (results_nd rfl _ _ w.heap.size ndZ (.int .i64 (m:Int)) (.int .i64 4) rfl rfl rfl (nd_put HN.out ndZ rfl) rfl) rfl (ValE.bad HR.out (Nat.zero_add _) (below_setRow HB.out (Nat.le_refl _) _))
  ·rw[if_neg hml] at hR
   have HR:Hid (R=(jv,m,0)):=Lib.hid hR.symm
   have HCS2:Hid (NdAny (kindV jv) cs):=Lib.hid (by have:=HCS.out;rwa[if_pos rfl] at this)
   have j1:¬ (m:Int)<(s.size:Int):=by omega
   clear hR hml
   go_wp2_with fail
   refine(HB2.out _).mono ?_
   rintro e wz ⟨rfl,rfl⟩
   go_wp2_with (first|(refine wpList_load_row rfl 101 _ rfl w1.heap.size rfl 101 _ (0,0) _ HN2.out Tryz.underlying101 rfl HSZ.out.1 ?_)|(refine wpList_store_row rfl 101 _ _ rfl w.heap.size cs rfl rfl 101 ndZ HN.out HSZ.out.1 HSZ.out.2 hone ?_)|fail)
   rw[← HQQ.out];refine bodyPost_ret (results_nd rfl _ _ w.heap.size cs (.int .i64 (m:Int)) (.int .i64 0) rfl rfl rfl (nd_put HN.out cs HSZ.out.2.symm) HSZ.out.2.symm) rfl (ValE.good HR.out (Nat.zero_add _) HCS2.out (below_setRow HB.out (Nat.le_refl _) _))
 ·rw[if_pos he1] at hR
  have HR:Hid (R=(.nul,n1,e1)):=Lib.hid hR.symm
  have j0:(e1 != 0)=true:=bne_iff_ne.2 he1
  clear hR
  go_wp2_with (first|(refine wpList_store_row rfl 101 _ _ rfl w.heap.size ndZ rfl rfl 101 ndZ HN.out nd_size rfl ndZ_one ?_)|fail)
  rw[← HQQ.out];refine bodyPost_ret (results_nd rfl _ _ w.heap.size ndZ (.int .i64 (n1:Int)) (.int .i64 e1) rfl rfl rfl (nd_put HN.out ndZ rfl) rfl) rfl (ValE.bad HR.out (Nat.zero_add _) (below_setRow HB.out (Nat.le_refl _) _))
def isOb:Js→Bool
 | .obj _=>true
 | _=>false
def ckP (b k:Int) (s:ByteArray):Int :=
 if b<512∨16257<b then 15 else if 5<k then 14 else if (takeV (bI s)).2.2≠0 then (takeV (bI s)).2.2 else if isOb (takeV (bI s)).1=true then 0 else 4
def hdP (L:List It) (k:Int):Hd:=⟨0,0,0,0,0,0,0,0,(L.length:Nat),((rowsS L).1.length:Nat),(conN (rowsS L).1:Nat),true,1,1,k,zlo L,zhi L,-1800000000,-850511287,1800000000,850511287,zlo L,0,0⟩
def ptP (L:List It) (b:Int) (s:ByteArray):Pt:=⟨encT (splitN (rowsS L).1 b).root,s,(splitN (rowsS L).1 b).text,catF (rowsS L).2⟩
def pressN (L:List It) (b k:Int) (s:ByteArray):ByteArray × Int :=
 if ckP b k s≠0 then (noB,ckP b k s) else if (splitN (rowsS L).1 b).err≠0 then (noB,(splitN (rowsS L).1 b).err) else glueN (hdP L k) (ptP L b s)
theorem zof_in (t:It) (h:t.1<6004799503160661):0≤zofV (t.1:Int)∧zofV (t.1:Int)≤26:=by
 obtain⟨k,hk,_,_,e⟩:=zof_yes (t.1:Int) (by omega) (by omega)
 rw[e];omega
theorem zof_up {a b:Int} (h0:0≤a) (hab:a≤b) (hb:b<6004799503160661):zofV a≤zofV b:=by
 obtain⟨i,hi,a1,a2,ea⟩:=zof_yes a h0 (by omega)
 obtain⟨j,hj,b1,b2,eb⟩:=zof_yes b (by omega) hb
 rw[ea,eb]
 rcases Nat.lt_or_ge j i with h|h
 ·have:=bas_mono (j+1) i (by omega)
  rw[bas_succ] at this
  omega
 ·omega
theorem zlo_in {L:List It} (hg:GoodC L):0≤zlo L∧zlo L≤zhi L∧zhi L≤26:=by
 cases L with
 | nil=>exact⟨Int.le_refl _,Int.le_refl _,by decide⟩
 | cons t m =>
  obtain⟨u,hu⟩:∃ u,(t :: m).getLast?=some u:=⟨_,List.getLast?_eq_some_getLast (by simp)⟩
  have hm:u ∈ t :: m:=List.mem_of_getLast? hu
  have h1:=zof_in t (hg.low t (by simp))
  have h2:=zof_in u (hg.low u hm)
  have e:zhi (t :: m)=zofV (u.1:Int):=by unfold zhi;rw[hu]
  have e2:zlo (t :: m)=zofV (t.1:Int):=rfl
  rw[e,e2]
  refine⟨h1.1,zof_up (by omega) ?_ (by have:=hg.low u hm;omega),h2.2⟩
  rcases List.mem_cons.1 hm with rfl|hm'
  ·omega
  ·have:=(List.pairwise_cons.1 hg.rise).1 u hm';omega
theorem rows_may {L:List It} (hg:GoodC L):MaysN (rowsS L).1:=fun e he=>((rinv_all hg).ok e he).may
theorem rows_len {L:List It} (hg:GoodC L):(rowsS L).1.length≤L.length:=(back_whole hg).2.2.2.2.1
structure Spl (l:List En) (b:Int):Prop where
 may:MaysN (splitN l b).root
 row:rowN (splitN l b).root=0
 len:(splitN l b).root.length≤l.length
 fit:((textI (splitN l b).root).length:Int)≤b
 text:(splitN l b).text.size≤10*l.length+40*l.length
theorem spl_of {l:List En} {b:Int} (hm:MaysN l) (hl:l.length≤150) (he:(splitN l b).err=0):Spl l b:=by
 obtain⟨b0,b1,hr,hlv,h⟩:=split_ok he
 rcases h with ⟨h,e⟩|⟨h,n,hn,hf,e⟩
 ·rw[sizD,if_pos hr] at h
  exact⟨by rw[e];exact hm,by rw[e];exact hr,by rw[e];exact Nat.le_refl _,by rw[e];exact h,by rw[e];exact Nat.zero_le _⟩
 ·have hrow:=roots_rowN n hn hm hr (by omega)
  have hlen:(rootsN 0 (cutN n l)).length≤l.length:=by rw[rootsN_len];exact cut_len n hn l
  rw[fit_few n hn hl,decide_eq_true_eq,sizD,if_pos hrow] at hf
  have hb:=textsI_bd (cutN n l)
  have hc:=cut_len n hn l
  rw[cut_flat n hn l] at hb
  refine⟨?_,by rw[e];exact hrow,by rw[e];exact hlen,by rw[e];exact hf,by rw[e];show (str (textsI (cutN n l))).size≤_;rw[str_size];omega⟩
  rw[e]
  refine roots_may (by rw[cut_flat n hn l];exact hm) (fun p hp=>(cut_mem n hn l p hp).1) (fun p hp=>?_) (by omega)
  have h1:=(textI_bd p).2
  have h2:p.length≤l.length:=by
   have:=cut_flat n hn l
   obtain⟨x,y,hxy⟩:=List.append_of_mem hp
   rw[hxy,List.flatten_append,List.flatten_cons] at this
   have:=congrArg List.length this
   rw[List.length_append,List.length_append] at this
   omega
  omega
theorem enc_ok {l:List En} (hr:rowN l=0) (hs:(textI l).length≤65536):encB l=0∧encT l=str (textI l):=by
 have h:encB l=0:=by unfold encB;rw[if_pos hr,if_neg (by omega)]
 exact⟨h,by unfold encT;rw[if_pos h]⟩
theorem cat_le {L:List It} (hg:GoodC L):(catF (rowsS L).2).size≤134217728:=by
 have:=tot_le hg L.length (Nat.le_refl _)
 rw[List.take_length] at this
 rw[catF_size];exact this
theorem few_pt {L:List It} {b:Int} {s:ByteArray} (hg:GoodC L) (hl:L.length≤150) (hs:s.size≤1000000) (he:(splitN (rowsS L).1 b).err=0) (hb:b≤16257):Few (ptP L b s) 200000000:=by
 have hlen:=rows_len hg
 have S:=spl_of (rows_may hg) (by omega) he
 have h1:=S.fit
 have h2:=S.text
 have h3:=cat_le hg
 obtain⟨e1,e2⟩:=enc_ok S.row (by omega)
 refine⟨?_,by show s.size≤_;omega,by show (splitN (rowsS L).1 b).text.size≤_;omega,by show (catF (rowsS L).2).size≤_;omega⟩
 show (encT (splitN (rowsS L).1 b).root).size≤_
 rw[e2,str_size]
 omega
theorem con_le (l:List En):conN l≤l.length:=by
 unfold conN
 refine Nat.le_trans (unl_len _) ?_
 unfold pairN
 rw[List.length_map]
 exact List.length_filter_le _ _
theorem may_hd {L:List It} {k:Int} (hg:GoodC L) (hk:U8 k):MayH (hdP L k):=by
 have h1:=zlo_in hg
 have h2:=hg.few
 have h3:=rows_len hg
 have h4:=con_le (rowsS L).1
 unfold U8 at hk
 unfold MayH hdP U64 U8
 simp only
 omega
theorem is_obj (S:Nat→Prop) (J:Js) (x:Value) (w:World) (h:AnyAt S w J x):∃ v,∀ W,(Instr.typeAssert x 20 96 true).run Tryz.prog W=.ok (.tuple #[v,.bool (isOb J)]) W:=by
 cases J <;> rw[AnyAt] at h
 ·subst h;exact⟨_,fun W=>assert_nil _ _ _ _ Tryz.underlying96 rfl zPrs W⟩
 ·subst h;exact⟨_,fun W=>assert_no _ _ _ _ _ _ Tryz.underlying96 rfl zPrs (by decide) W⟩
 ·subst h;exact⟨_,fun W=>assert_no _ _ _ _ _ _ Tryz.underlying96 rfl zPrs (by decide) W⟩
 ·obtain⟨t,rfl,_⟩:=h;exact⟨_,fun W=>assert_no _ _ _ _ _ _ Tryz.underlying96 rfl zPrs (by decide) W⟩
 ·obtain⟨a,c,rfl,_⟩:=h;exact⟨_,fun W=>assert_no _ _ _ _ _ _ Tryz.underlying96 rfl zPrs (by decide) W⟩
 ·obtain⟨a,c,rfl,_⟩:=h;exact⟨_,fun W=>assert_yes _ _ _ _ Tryz.underlying96 rfl W⟩
 ·subst h;exact⟨_,fun W=>assert_no _ _ _ _ _ _ Tryz.underlying96 rfl zPrs (by decide) W⟩
def planV (b k:Int) (s:ByteArray):Array Value:=#[.int .i64 b,.int .u8 k,.string s]
set_option maxHeartbeats 1000000 in
theorem check18_any (b k:Int) (s:ByteArray) (w:World) (hq:QTab w) (hs:s.size≤1000000):Calls Tryz.prog 12 #[.agg (planV b k s)] w fun e w'=>e=.returned (.int .i64 (ckP b k s))∧Below w.heap.size w w':=by
 unfold planV ckP
 have HT:=Lib.hid (fun W hq=>ptake_any s W hq hs)
 have HQ:=Lib.hid (fun W (hb:Below w.heap.size w W)=>hq.below hb)
 obtain⟨V,hV⟩:∃ V,takeV (bI s)=V:=⟨_,rfl⟩
 rw[hV] at HT ⊢
 unfold TakeV at HT
 clear hq hV
 by_cases h1:b<512
 ·rw[if_pos (.inl h1)]
  have e1:decide (b<512)=true:=decide_eq_true h1
  clear h1
  go_enter Tryz.func12,Tryz.ntmps12
  go_wp2_with fail
  go_ret
  exact⟨rfl,by go_grown⟩
 have e1:decide (b<512)=false:=decide_eq_false h1
 by_cases h2:16257<b
 ·rw[if_pos (.inr h2)]
  have e2:decide (16257<b)=true:=decide_eq_true h2
  clear h1 h2
  go_enter Tryz.func12,Tryz.ntmps12
  go_wp2_with fail
  go_ret
  exact⟨rfl,by go_grown⟩
 have e2:decide (16257<b)=false:=decide_eq_false h2
 rw[if_neg (by omega)]
 by_cases h3:5<k
 ·rw[if_pos h3]
  have e3:decide (5<k)=true:=decide_eq_true h3
  clear h1 h2 h3
  go_enter Tryz.func12,Tryz.ntmps12
  go_wp2_with fail
  go_ret
  exact⟨rfl,by go_grown⟩
 have e3:decide (5<k)=false:=decide_eq_false h3
 rw[if_neg h3]
 obtain⟨R,hR⟩:∃ R,(if V.2.2≠0 then V.2.2 else if isOb V.1=true then 0 else 4)=R:=⟨_,rfl⟩
 rw[hR]
 have HR:=Lib.hid hR
 clear h1 h2 h3 hR
 go_enter Tryz.func12,Tryz.ntmps12
 go_wp2_with fail
 have HB0:Hid (Below w.heap.size w (w.alloc (.cells #[.int .i64 b,.int .u8 k,.string s] 35))):=Lib.hid ((Below.refl _ _).alloc (Nat.le_refl _) _)
 refine(HT.out _ (HQ.out _ HB0.out)).mono ?_
 rintro e w1 ⟨⟨x,rfl,hx⟩,hb1⟩
 have HB:=Lib.hid (HB0.out.trans (hb1.mono HB0.out.size))
 obtain⟨v,hv⟩:=is_obj _ _ _ _ hx
 clear hx hb1 HT HB0
 by_cases h4:V.2.2=0
 ·have e4:(V.2.2 == 0)=true:=by simp[h4]
  have HR1:=Lib.hid (HR.out.symm.trans (if_neg (by simpa using h4)))
  cases h5:isOb V.1 with
  | true =>
   rw[h5] at hv
   have HR2:=Lib.hid (HR1.out.trans (if_pos h5))
   clear h4 h5
   generalize V.2.2=z at *
   go_wp2_with fail
   go_ret
   exact⟨by rw[HR2.out];rfl,HB.out⟩
  | false =>
   rw[h5] at hv
   have HR2:=Lib.hid (HR1.out.trans (if_neg (by simp[h5])))
   clear h4 h5
   generalize V.2.2=z at *
   go_wp2_with fail
   go_ret
   exact⟨by rw[HR2.out];rfl,HB.out⟩
 ·have e4:(V.2.2 == 0)=false:=by simp[h4]
  have HR2:=Lib.hid (HR.out.symm.trans (if_pos (by simpa using h4)))
  clear h4
  generalize V.2.2=z at *
  go_wp2_with fail
  go_ret
  exact⟨by rw[HR2.out];rfl,HB.out⟩
theorem kind_ob (J:Js):(kindV J != 6)=!isOb J:=by
 cases J with
 | bool b=>cases b <;> rfl
 | _=>rfl
theorem NdAny.c0 {k:Int} {cs:Array Value} (h:NdAny k cs):cs[0]?=some (.int .u8 k):=by obtain⟨_,_,_,_,_,_,_,_,rfl⟩:=h;rfl
set_option maxHeartbeats 4000000 in
theorem rcheck18_any (b k:Int) (s:ByteArray) (w:World) (hs:s.size≤1000000):Calls Tryz.prog 13 #[.agg (planV b k s)] w fun e w'=>e=.returned (.int .i64 (ckP b k s))∧Below w.heap.size w w':=by
 unfold planV ckP
 have HT:=Lib.hid (fun W=>rtake17_any s W hs)
 obtain⟨V,hV⟩:∃ V,takeV (bI s)=V:=⟨_,rfl⟩
 rw[hV] at HT ⊢
 unfold ValE at HT
 clear hV
 by_cases h1:b<512
 ·rw[if_pos (.inl h1)]
  have e1:decide (b<512)=true:=decide_eq_true h1
  clear h1
  go_enter Tryz.func13,Tryz.ntmps13
  go_wp2_with fail
  go_ret
  exact⟨rfl,by go_grown⟩
 have e1:decide (b<512)=false:=decide_eq_false h1
 by_cases h2:16257<b
 ·rw[if_pos (.inr h2)]
  have e2:decide (16257<b)=true:=decide_eq_true h2
  clear h1 h2
  go_enter Tryz.func13,Tryz.ntmps13
  go_wp2_with fail
  go_ret
  exact⟨rfl,by go_grown⟩
 have e2:decide (16257<b)=false:=decide_eq_false h2
 rw[if_neg (by omega)]
 by_cases h3:5<k
 ·rw[if_pos h3]
  have e3:decide (5<k)=true:=decide_eq_true h3
  clear h1 h2 h3
  go_enter Tryz.func13,Tryz.ntmps13
  go_wp2_with fail
  go_ret
  exact⟨rfl,by go_grown⟩
 have e3:decide (5<k)=false:=decide_eq_false h3
 rw[if_neg h3]
 obtain⟨R,hR⟩:∃ R,(if V.2.2≠0 then V.2.2 else if isOb V.1=true then 0 else 4)=R:=⟨_,rfl⟩
 rw[hR]
 obtain⟨jv,n,e0⟩:=V
 simp only at HT hR
 obtain⟨z,hz⟩:∃ z,0+n=z:=⟨_,rfl⟩
 rw[hz] at HT
 have HR:=Lib.hid hR
 clear h1 h2 h3 hR hz
 go_enter Tryz.func13,Tryz.ntmps13
 go_wp2_with fail
 have HB0:Hid (Below w.heap.size w (w.alloc (.cells #[.int .i64 b,.int .u8 k,.string s] 24))):=Lib.hid ((Below.refl _ _).alloc (Nat.le_refl _) _)
 refine(HT.out _).mono ?_
 rintro e w1 ⟨cs,hcs,rfl,hb⟩
 have HCS:=Lib.hid hcs
 have HB1:=Lib.hid (HB0.out.trans (hb.mono HB0.out.size))
 obtain⟨W2,hW2⟩:∃ W2,(w1.alloc (.cells ndZ 101)).setRow w1.heap.size cs=W2:=⟨_,rfl⟩
 have hN2:ndNode W2 w1.heap.size cs:=by rw[← hW2];exact nd_put (heap_new w1 _) cs hcs.size
 have hB2:Below w1.heap.size w1 W2:=by rw[← hW2];exact below_setRow (below_oneC w1 _) (Nat.le_refl _) _
 have HB:=Lib.hid (HB1.out.trans (hB2.mono HB1.out.size))
 have hone:=hcs.one
 have c0:W2.cell? ⟨w1.heap.size,0,none⟩=some (.int .u8 (if e0=0 then kindV jv else 0)):=by rw[nd_cell hN2,hcs.c0]
 have HSZ:Hid ((Tryz.prog.info? 101).map (·.size)=some cs.size∧5=cs.size):=Lib.hid ⟨by rw[nd_size,hcs.size],hcs.size.symm⟩
 unfold ndZ at hW2
 clear hb hN2 hB2 hcs
 go_upto_region 6 with (first|(refine wpList_store_row rfl 101 _ _ rfl w1.heap.size cs rfl rfl 101 ndZ (heap_new w1 _) HSZ.out.1 HSZ.out.2 hone ?_)|fail)
 by_cases he0:e0=0
 ·subst he0
  rw[if_pos rfl] at c0
  have hk:=kind_ob jv
  cases hob:isOb jv
  ·have HE:Hid (R=4):=Lib.hid (by rw[← HR.out,if_neg (by simp),hob];rfl)
   rw[hob] at hk
   have hk':(kindV jv != 6)=true:=hk
   clear hk hob
   go_wp2_with fail
   go_ret
   exact⟨by rw[HE.out];rfl,HB.out⟩
  ·have HE:Hid (R=0):=Lib.hid (by rw[← HR.out,if_neg (by simp),hob];rfl)
   rw[hob] at hk
   have hk':(kindV jv != 6)=false:=hk
   clear hk hob
   go_wp2_with fail
   go_ret
   exact⟨by rw[HE.out];rfl,HB.out⟩
 ·have HE:Hid (R=e0):=Lib.hid (by rw[← HR.out,if_pos he0])
  have j0:(e0 != 0)=true:=bne_iff_ne.2 he0
  clear he0 c0
  go_wp2_with fail
  go_ret
  exact⟨by rw[HE.out];rfl,HB.out⟩
end Go.Proofs.YtdnmgpcfgcidbaaGreatDoor
