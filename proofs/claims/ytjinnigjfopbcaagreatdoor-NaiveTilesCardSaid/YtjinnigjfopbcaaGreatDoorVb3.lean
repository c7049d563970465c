/- bMC bMH. -/
import Derived.Test.YtjinnigjfopbcaaGreatDoorVs
import Derived.Test.YtjinnigjfopbcaaGreatDoorVb2
import Derived.Test.YtjinnigjfopbcaaGreatDoorVb1
set_option maxHeartbeats 16000000
namespace Go.Proofs.YtjinnigjfopbcaaGreatDoor
set_option linter.unusedVariables false
set_option linter.unusedSimpArgs false
open Go.RowKit
set_option maxRecDepth 20000
open Go.RowKit
set_option maxRecDepth 20000
theorem xpD (t:ByteArray) (p q:Int) (hm:t.size≤maxLen):xbL t p q 0=xbq t p q:=by
 unfold xbL xbq
 simp only[xaM]
 by_cases h1:q=0
 ·rw[if_pos h1,if_pos h1]
  by_cases h2:xaN t p=0
  ·have h3:0≤p∧p≤t.size:=by
    unfold xaN at h2
    split at h2
    ·assumption
    ·cases h2
   have h4:xeh t p 0=0:=by
    unfold xeh wrap64
    unfold maxLen at hm
    rw[if_neg (by omega)]
   rw[if_pos h2,if_pos h2,h4]
   simp[xcq]
  ·rw[if_neg h2,if_neg h2]
 ·rw[if_neg h1,if_neg h1]
theorem xeV (t:ByteArray) (p q:Int) (h:xbq t p q=0):q=0∧0≤p∧p≤t.size:=by
 unfold xbq at h
 simp only[xaM] at h
 split at h
 ·rename_i h1
  split at h
  ·rename_i h2
   unfold xaN at h2
   split at h2
   ·exact⟨h1,by assumption⟩
   ·cases h2
  ·contradiction
 ·contradiction
theorem xdU (t:ByteArray) (p q:Int) (w:World) (hm:t.size≤maxLen):Calls Tryz.prog 267 #[.agg #[.string t,.int .i64 p,.int .i64 q]] w
  fun e w'=>e=.returned (.agg #[.string t,.int .i64 p,.int .i64 (xbq t p q)])∧Below w.heap.size w w':=by
 have hb0:=xpD t p q hm
 obtain⟨r,hr⟩:∃ r,xbq t p q=r:=⟨_,rfl⟩
 rw[hr] at hb0 ⊢
 by_cases h:r=0
 ·subst h
  obtain⟨rfl,p0,p1⟩:=xeV t p q hr
  have HM:=lH hm;clear hm hr
  have H0:=lH hb0;clear hb0
  go_enter Tryz.func267,Tryz.ntmps267
  go_wp2_with fail
  refine(xjI t p 0 _ HM.out H0.out p0 (by omega) (by omega)).mono ?_
  rintro e w1 ⟨rfl,hb⟩
  have hz:w.heap.size+2≤w1.heap.size:=by have:=hb.size;simp at this;omega
  have hbw:Below w.heap.size w w1:=Below.trans (by go_grown) (hb.mono (by simp;omega))
  have f0:∀ o,w1.frozen? ⟨w.heap.size,o,none⟩=false:=fun o=>((xag hb).2 _ _ (by simp;omega)).trans (by simp[go_sem])
  have f1:∀ o,w1.frozen? ⟨w.heap.size+1,o,none⟩=false:=fun o=>((xag hb).2 _ _ (by simp)).trans (by simp[go_sem])
  have c0:w1.cell? ⟨w.heap.size,0,none⟩=some (.string t):=((xag hb).1 _ _ (by simp;omega)).trans (by simp[go_sem])
  have c1:w1.cell? ⟨w.heap.size,1,none⟩=some (.int .i64 p):=((xag hb).1 _ _ (by simp;omega)).trans (by simp[go_sem])
  have c2:w1.cell? ⟨w.heap.size,2,none⟩=some (.int .i64 0):=((xag hb).1 _ _ (by simp;omega)).trans (by simp[go_sem])
  have c3:w1.cell? ⟨w.heap.size+1,0,none⟩=some (.string { data:=#[] }):=((xag hb).1 _ _ (by simp)).trans (by simp[go_sem])
  have c4:w1.cell? ⟨w.heap.size+1,1,none⟩=some (.int .i64 0):=((xag hb).1 _ _ (by simp)).trans (by simp[go_sem])
  have c5:w1.cell? ⟨w.heap.size+1,2,none⟩=some (.int .i64 0):=((xag hb).1 _ _ (by simp)).trans (by simp[go_sem])
  clear hb
  have hp:p+0=p:=by omega
  rw[hp]
  go_wp2_with fail
  refine bodyPost_ret (v:=.agg #[.string t,.int .i64 p,.int .i64 0]) (by simp[results,Tryz.results267,go_sem,c3,c4,c5]) rfl ⟨rfl,?_⟩
  go_grown
 ·have hb1:=xtp t p q 0
  rw[hb0] at hb1
  have HB:=lH (fun w=>hb1 w h);clear hb1 hb0 hm h hr
  go_enter Tryz.func267,Tryz.ntmps267
  go_wp2_with fail
  refine(HB.out _).mono ?_
  rintro e w1 ⟨rfl,hb⟩
  have hz:w.heap.size+2≤w1.heap.size:=by have:=hb.size;simp at this;omega
  have hbw:Below w.heap.size w w1:=Below.trans (by go_grown) (hb.mono (by simp;omega))
  have f0:∀ o,w1.frozen? ⟨w.heap.size,o,none⟩=false:=fun o=>((xag hb).2 _ _ (by simp;omega)).trans (by simp[go_sem])
  have f1:∀ o,w1.frozen? ⟨w.heap.size+1,o,none⟩=false:=fun o=>((xag hb).2 _ _ (by simp)).trans (by simp[go_sem])
  have c0:w1.cell? ⟨w.heap.size,0,none⟩=some (.string t):=((xag hb).1 _ _ (by simp;omega)).trans (by simp[go_sem])
  have c1:w1.cell? ⟨w.heap.size,1,none⟩=some (.int .i64 p):=((xag hb).1 _ _ (by simp;omega)).trans (by simp[go_sem])
  have c2:w1.cell? ⟨w.heap.size,2,none⟩=some (.int .i64 q):=((xag hb).1 _ _ (by simp;omega)).trans (by simp[go_sem])
  have c3:w1.cell? ⟨w.heap.size+1,0,none⟩=some (.string { data:=#[] }):=((xag hb).1 _ _ (by simp)).trans (by simp[go_sem])
  have c4:w1.cell? ⟨w.heap.size+1,1,none⟩=some (.int .i64 0):=((xag hb).1 _ _ (by simp)).trans (by simp[go_sem])
  have c5:w1.cell? ⟨w.heap.size+1,2,none⟩=some (.int .i64 0):=((xag hb).1 _ _ (by simp)).trans (by simp[go_sem])
  clear hb
  go_wp2_with fail
  refine bodyPost_ret (v:=.agg #[.string t,.int .i64 p,.int .i64 r]) (by simp[results,Tryz.results267,go_sem,c3,c4,c5]) rfl ⟨rfl,?_⟩
  go_grown
def xwA (l:List UInt8):Int:=if xbj l=0 then xaZ l else 0
def xuh (l:List UInt8):Int:=if xbj l=0 then xl0 l else 0
theorem xjp (l:List UInt8) (h:xbj l=0):xwA l=xaZ l∧xuh l=xl0 l:=by unfold xwA xuh;rw[if_pos h,if_pos h];exact⟨rfl,rfl⟩
theorem xc7 (l:List UInt8) (e:Int) (he:xbj l=e) (h:e≠0):xwA l=0∧xuh l=0:=by unfold xwA xuh;rw[if_neg (by omega),if_neg (by omega)];exact⟨rfl,rfl⟩
theorem xkp (t:ByteArray) (k:Nat) (h:k<t.size):t.data.toList.getD k 0=t[k]:=by
 have:k<t.data.size:=h
 simp[List.getD,Array.getElem?_eq_getElem this];rfl
theorem xr6 (k:Nat):(2:Int) ^ (7*k)=p7 k:=by rw[← xyu];simp
theorem or7 (k:Nat) (y c:Int) (y0:0≤y) (y1:y<p7 k) (c0:0≤c) (c1:c*p7 k<18446744073709551616) (y2:y<18446744073709551616):bits BinOp.or IntKind.u64 y (c*p7 k)=y+c*p7 k:=by
 have hp:=xji k
 have hz:0≤c*p7 k:=Int.mul_nonneg c0 (by omega)
 rw[u64_or _ _ y0 y2 hz c1]
 have e:=xyu k
 have h1:(c*p7 k).toNat=c.toNat*2 ^ (7*k):=by
  rw[← e]
  have:c=(c.toNat:Int):=by omega
  rw[this,← Int.natCast_mul,Int.toNat_natCast,Int.toNat_natCast]
 have h2:y.toNat<2 ^ (7*k):=by omega
 rw[Nat.or_comm,nat_join (7*k) _ _ (by rw[h1];exact Nat.mul_mod_left _ _) h2]
 omega
theorem xzN (k:Nat) (y c:Int) (y0:0≤y) (y1:y<p7 k) (c0:0≤c) (c1:c*p7 k<18446744073709551616) (y2:y<18446744073709551616):bits BinOp.or IntKind.u64 y (IntKind.u64.wrap (c*2 ^ (7*k)))=y+c*p7 k:=by
 have hz:0≤c*p7 k:=Int.mul_nonneg c0 (by have:=xji k;omega)
 rw[xr6,IntWalk.u64_in _ (by omega),or7 k y c y0 y1 c0 c1 y2]
theorem xpx (l:List UInt8) (k:Nat) (c:Nat) (hk:k≤xaK 10 l) (hlt:k<l.length) (h10:k<10) (hc:(l.getD k 0).toNat=c) (h:c<128) :
  (k=9∧1<c→xbj l=11)∧(¬ (k=9∧1<c)→0<k∧c=0→xbj l=4)∧(¬ (k=9∧1<c)→¬ (0<k∧c=0)→xbj l=0∧xl0 l=k+1∧xaZ l=xch (l.take k)+c*p7 k∧xch (l.take k)<p7 k∧0≤xch (l.take k)∧(c:Int)*p7 k<18446744073709551616∧xch (l.take k)<18446744073709551616):=by
 have hl:=xwc l k hk (by omega)
 have he:xbj l=if k=10 then 11 else if k=l.length then 3 else if k=9∧1<c then 11 else if 0<k∧c=0 then 4 else 0:=by
  unfold xbj;rw[hl,hc]
 rw[if_neg (by omega),if_neg (by omega)] at he
 refine⟨fun a=>by rw[he,if_pos a],fun a b=>by rw[he,if_neg a,if_pos b],fun a b=>?_⟩
 have hb:=xdR (l.take k)
 have hlen:(l.take k).length=k:=by simp;omega
 rw[hlen] at hb
 have h9:=xia k 9 (by omega)
 have ht:=xhp.2
 refine⟨by rw[he,if_neg a,if_neg b],by unfold xl0;rw[hl];simp,?_,hb.2,hb.1,?_,by omega⟩
 ·unfold xaZ
  rw[hl,xgl l k hlt,hc]
  congr 2
  omega
 ·by_cases hk9:k=9
  ·subst hk9;rw[ht];omega
  ·have h8:=xia k 8 (by omega)
   have e8:p7 8=72057594037927936:=by decide
   have:(c:Int)*p7 k≤127*p7 k:=Int.mul_le_mul_of_nonneg_right (by omega) (by have:=xji k;omega)
   omega
theorem xrI (l:List UInt8) (k:Nat) (y:Int) (c:Nat) (hk:k≤xaK 10 l) (hlt:k<l.length) (hc:(l.getD k 0).toNat=c) (h:128≤c) (hy:k≤9→y=xch (l.take k)) (h9:k+1≤9):bits BinOp.or IntKind.u64 y (IntKind.u64.wrap (((c:Int) - 128)*2 ^ (7*k)))=xch (l.take (k+1)):=by
 have hb:=xdR (l.take k)
 have hlen:(l.take k).length=k:=by simp;omega
 rw[hlen] at hb
 have hx:=xhS (l.getD k 0)
 have h8:=xia k 8 (by omega)
 have e8:p7 8=72057594037927936:=by decide
 have:((c:Int) - 128)*p7 k≤127*p7 k:=Int.mul_le_mul_of_nonneg_right (by omega) (by have:=xji k;omega)
 rw[hy (by omega),xzN k _ _ hb.1 hb.2 (by omega) (by omega) (by omega),xgl l k hlt,hc]
 congr 2
 omega
set_option maxRecDepth 20000 in
theorem xhu (t:ByteArray) (w:World) (hm:t.size≤maxLen):Calls Tryz.prog 268 #[.string t] w fun e w'=>e=.returned (.tuple #[.int .u64 (xwA t.data.toList),.int .i64 (xuh t.data.toList),.int .i64 (xbj t.data.toList)])∧w=w':=by
 unfold maxLen at hm
 obtain⟨l,hl⟩:∃ l,t.data.toList=l:=⟨_,rfl⟩
 have hlen:l.length=t.size:=by rw[← hl];simp
 have hat:∀ k (h:k<t.size),(l.getD k 0).toNat=t[k].toNat:=fun k h=>by rw[← hl,xkp t k h]
 rw[hl]
 have HAT:=lH hat;have HLEN:=lH hlen;clear hat hlen hl
 obtain⟨X,hX⟩:∃ X,xwA l=X:=⟨_,rfl⟩
 obtain⟨N,hN⟩:∃ N,xuh l=N:=⟨_,rfl⟩
 obtain⟨E,hE⟩:∃ E,xbj l=E:=⟨_,rfl⟩
 rw[hX,hN,hE]
 have HX:=lH hX;have HN:=lH hN;have HE:=lH hE;clear hX hN hE
 go_enter Tryz.func268,Tryz.ntmps268
 go_wp2_with fail
 go_step3
 go_wp2_with fail
 go_step3
 go_wp2_with fail
 go_loop [5,6] (fun x i=>∃ (k:Nat) (y:Int),k≤xaK 10 l∧i=.int .i64 k∧x=.int .u64 y∧Hid (k≤9→y=xch (l.take k))) (fun _ i=>10 - (intOf i).toNat)
 case atStart=>exact⟨0,0,Nat.zero_le _,rfl,rfl,lH (fun _=>by simp[xch])⟩
 case round =>
  obtain⟨k,y,hk,rfl,rfl,HY⟩:=hrel
  have hll:=xgb 10 l
  by_cases h10:k=10
  ·subst h10
   have HF:Hid (X=0∧N=0∧E=11):=by
    have hl:xaK 10 l=10:=by omega
    have he:xbj l=11:=by unfold xbj;rw[if_pos hl]
    have:=xc7 l 11 he (by decide)
    exact lH ⟨by rw[← HX.out,this.1],by rw[← HN.out,this.2],by rw[← HE.out,he]⟩
   clear hll hk
   go_wp2_with fail
   try rw[Exit.noGoto_ret]
   go_ret3
   exact⟨xuw HF.out.1.symm HF.out.2.1.symm HF.out.2.2.symm,rfl⟩
  ·by_cases hn:k=t.size
   ·subst hn
    have HF:Hid (X=0∧N=0∧E=3):=by
     have hl:xaK 10 l=t.size:=by have:=HLEN.out;omega
     have he:xbj l=3:=by have:=HLEN.out;unfold xbj;rw[if_neg (by omega),if_pos (by omega)]
     have:=xc7 l 3 he (by decide)
     exact lH ⟨by rw[← HX.out,this.1],by rw[← HN.out,this.2],by rw[← HE.out,he]⟩
    have hk9:((t.size:Int) == 10)=false:=by simp;omega
    clear hll hk
    go_wp2_with fail
    try rw[Exit.noGoto_ret]
    go_ret3
    exact⟨xuw HF.out.1.symm HF.out.2.1.symm HF.out.2.2.symm,rfl⟩
   ·have hlt:k<t.size:=by have:=HLEN.out;omega
    have h10':k<10:=by omega
    have hk0:(0:Int)≤(k:Int):=Int.natCast_nonneg _
    have hk1:(k:Int)<(t.size:Int):=by omega
    have hk9:((k:Int) == 10)=false:=by simp;omega
    have hkt:((k:Int) == (t.size:Int))=false:=by simp;omega
    have hca:=HAT.out k hlt
    have hcb:t[k].toNat<256:=xhS _
    by_cases hc:128≤t[k].toNat
    ·have HK:Hid (k+1≤xaK 10 l):=lH (xgv 10 l k hk h10' (by rw[HLEN.out];exact hlt) (by rw[hca];exact hc))
     have HV:Hid (k+1≤9→bits BinOp.or IntKind.u64 y (IntKind.u64.wrap (((t[k].toNat:Int) - 128)*2 ^ (7*k)))=xch (l.take (k+1))) :=
      lH (fun h9=>xrI l k y _ hk (by rw[HLEN.out];exact hlt) hca hc HY.out h9)
     have hw8:IntKind.u8.wrap ((t[k].toNat:Int) - 128)=(t[k].toNat:Int) - 128:=IntWalk.u8_in _ (by omega)
     clear HY hca hll hk
     go_wp2_with fail
     exact⟨⟨k+1,_,HK.out,by go_num,rfl,HV⟩,by simp[intOf];omega⟩
    ·have HS:=lH (xpx l k _ hk (by rw[HLEN.out];exact hlt) h10' hca (by omega))
     clear hca hll hk
     by_cases hA:k=9∧1<t[k].toNat
     ·have HF:Hid (X=0∧N=0∧E=11):=by
       have he:=HS.out.1 hA
       have:=xc7 l 11 he (by decide)
       exact lH ⟨by rw[← HX.out,this.1],by rw[← HN.out,this.2],by rw[← HE.out,he]⟩
      clear HS
      obtain⟨rfl,hA2⟩:=hA
      go_wp2_with fail
      try rw[Exit.noGoto_ret]
      go_ret3
      exact⟨xuw HF.out.1.symm HF.out.2.1.symm HF.out.2.2.symm,rfl⟩
     ·by_cases hB:0<k∧t[k].toNat=0
      ·have HF:Hid (X=0∧N=0∧E=4):=by
        have he:=HS.out.2.1 hA hB
        have:=xc7 l 4 he (by decide)
        exact lH ⟨by rw[← HX.out,this.1],by rw[← HN.out,this.2],by rw[← HE.out,he]⟩
       clear HS
       obtain⟨hB1,hB2⟩:=hB
       have hc0:((t[k].toNat:Int) == 0)=true:=by simp;omega
       have hc1:decide (1<(t[k].toNat:Int))=false:=by simp;omega
       by_cases h9:k=9
       ·subst h9
        go_wp2_with fail
        try rw[Exit.noGoto_ret]
        go_ret3
        exact⟨xuw HF.out.1.symm HF.out.2.1.symm HF.out.2.2.symm,rfl⟩
       ·have h9':((k:Int) == 9)=false:=by simp;omega
        go_wp2_with fail
        try rw[Exit.noGoto_ret]
        go_ret3
        exact⟨xuw HF.out.1.symm HF.out.2.1.symm HF.out.2.2.symm,rfl⟩
      ·have hs:=HS.out.2.2 hA hB
       have hy:=HY.out (by omega)
       have hf:=xjp l hs.1
       have HF:Hid (X=y+t[k].toNat*p7 k∧N=(k:Int)+1∧E=0) :=
        lH ⟨by rw[← HX.out,hf.1,hs.2.2.1,← hy],by rw[← HN.out,hf.2,hs.2.1],by rw[← HE.out,hs.1]⟩
       obtain⟨_,_,_,q1,q2,q3,q4⟩:=hs
       rw[← hy] at q1 q2 q4
       have HQ:=lH (And.intro q1 (And.intro q2 (And.intro q3 q4)))
       clear HS q1 q2 q3 q4 hf hy HY
       by_cases h9:k=9
       ·subst h9
        have hc0:((t[9].toNat:Int) == 0)=false:=by simp;omega
        have hc1:(t[9].toNat:Int)≤1:=by omega
        go_wp2_with fail
        try rw[Exit.noGoto_ret]
        go_ret3
        refine⟨xuw ?_ HF.out.2.1.symm HF.out.2.2.symm,rfl⟩
        rw[HF.out.1]
        have:=or7 9 y t[9].toNat HQ.out.2.1 HQ.out.1 (by omega) HQ.out.2.2.1 HQ.out.2.2.2
        rw[← this,xhp.2]
       ·have h9':((k:Int) == 9)=false:=by simp;omega
        have hd:(decide (0<(k:Int)) && ((t[k].toNat:Int) == 0))=false:=by simp;omega
        by_cases hk00:k=0
        ·subst hk00
         go_wp2_with fail
         try rw[Exit.noGoto_ret]
         go_ret3
         refine⟨xuw ?_ HF.out.2.1.symm HF.out.2.2.symm,rfl⟩
         rw[HF.out.1]
         have:=or7 0 y t[0].toNat HQ.out.2.1 HQ.out.1 (by omega) HQ.out.2.2.1 HQ.out.2.2.2
         rw[← this]
         simp[p7]
        ·have hc0:((t[k].toNat:Int) == 0)=false:=by simp;omega
         have hkp:0<k:=by omega
         go_wp2_with fail
         try rw[Exit.noGoto_ret]
         go_ret3
         refine⟨xuw ?_ HF.out.2.1.symm HF.out.2.2.symm,rfl⟩
         rw[HF.out.1]
         exact xzN k y t[k].toNat HQ.out.2.1 HQ.out.1 (by omega) HQ.out.2.2.1 HQ.out.2.2.2
def rst (t:ByteArray) (p:Int):List UInt8:=t.data.toList.drop p.toNat
theorem xih (t:ByteArray) (p:Int):(t.extract p.toNat t.size).data.toList=rst t p:=by
 unfold rst
 rw[ByteArray.data_extract,Array.toList_extract,List.extract_eq_take_drop,List.take_of_length_le]
 simp
theorem xkq (t:ByteArray) (p:Int) (p0:0≤p) (p1:p≤t.size):((rst t p).length:Int)=t.size - p:=by
 unfold rst
 rw[List.length_drop]
 have:t.data.toList.length=t.size:=by simp
 omega
theorem xus (t:ByteArray) (p:Int) (p0:0≤p) (p1:p≤t.size) (h:xbj (rst t p)=0):1≤xl0 (rst t p)∧p+xl0 (rst t p)≤t.size∧xl0 (rst t p)≤10:=by
 have h1:=xde _ h
 have h2:=xkq t p p0 p1
 unfold xl0
 omega
def xcX (t:ByteArray) (x p q:Int) (w:World) (e:Ending) (w':World):Prop:=e=.returned (.tuple #[.int .u64 x,.agg #[.string t,.int .i64 p,.int .i64 q]])∧Below w.heap.size w w'
theorem xzo (t:ByteArray) (p q r:Int) (w:World) (hm:t.size≤maxLen) (hr:xbq t p q=r) (h:r≠0):Calls Tryz.prog 195 #[.agg #[.string t,.int .i64 p,.int .i64 q]] w (xcX t 0 p r w):=by
 have HV:=lH (fun W=>hr ▸ xdU t p q W hm)
 have hne:(r != 0)=true:=by simp only[bne_iff_ne,ne_eq];exact h
 clear hr h hm
 go_enter Tryz.func195,Tryz.ntmps195
 go_wp2_with fail
 refine(HV.out _).mono ?_
 rintro e w1 ⟨rfl,hb⟩
 have hz:w.heap.size+2≤w1.heap.size:=by have:=hb.size;simp at this;omega
 have hbw:Below w.heap.size w w1:=Below.trans (by go_grown) (hb.mono (by simp;omega))
 have f0:∀ o,w1.frozen? ⟨w.heap.size,o,none⟩=false:=fun o=>((xag hb).2 _ _ (by simp;omega)).trans (by simp[go_sem])
 have f1:∀ o,w1.frozen? ⟨w.heap.size+1,o,none⟩=false:=fun o=>((xag hb).2 _ _ (by simp)).trans (by simp[go_sem])
 have c0:w1.cell? ⟨w.heap.size,0,none⟩=some (.string t):=((xag hb).1 _ _ (by simp;omega)).trans (by simp[go_sem])
 have c1:w1.cell? ⟨w.heap.size,1,none⟩=some (.int .i64 p):=((xag hb).1 _ _ (by simp;omega)).trans (by simp[go_sem])
 have c2:w1.cell? ⟨w.heap.size,2,none⟩=some (.int .i64 q):=((xag hb).1 _ _ (by simp;omega)).trans (by simp[go_sem])
 have c3:w1.cell? ⟨w.heap.size+1,0,none⟩=some (.string { data:=#[] }):=((xag hb).1 _ _ (by simp)).trans (by simp[go_sem])
 have c4:w1.cell? ⟨w.heap.size+1,1,none⟩=some (.int .i64 0):=((xag hb).1 _ _ (by simp)).trans (by simp[go_sem])
 have c5:w1.cell? ⟨w.heap.size+1,2,none⟩=some (.int .i64 0):=((xag hb).1 _ _ (by simp)).trans (by simp[go_sem])
 clear hb HV
 go_wp2_with fail
 go_region
 all_goals
  go_wp2
  refine bodyPost_ret (v:=.tuple #[.int .u64 0,.agg #[.string t,.int .i64 p,.int .i64 r]]) (by simp[results,Tryz.results195,go_sem,c3,c4,c5]) rfl ⟨rfl,?_⟩
  go_grown
theorem xzv (t:ByteArray) (p q r:Int) (w:World) (hm:t.size≤maxLen) (h0:xbq t p q=0) (hr:xbj (rst t p)=r) (h:r≠0):Calls Tryz.prog 195 #[.agg #[.string t,.int .i64 p,.int .i64 q]] w (xcX t 0 p r w):=by
 have HV:=lH (fun W=>h0 ▸ xdU t p q W hm)
 obtain⟨rfl,p0,p1⟩:=xeV t p q h0
 have hne:(r != 0)=true:=by simp only[bne_iff_ne,ne_eq];exact h
 have hzz:(t.extract p.toNat t.size).size≤maxLen:=by simp;omega
 have HF:Hid (∀ W,Calls Tryz.prog 268 #[.string (t.extract p.toNat t.size)] W fun e w'=>e=.returned (.tuple #[.int .u64 0,.int .i64 0,.int .i64 r])∧W=w'):=by
  apply lH
  intro W
  have:=xhu (t.extract p.toNat t.size) W hzz
  rw[xih,hr,(xc7 _ r hr h).1,(xc7 _ r hr h).2] at this
  exact this
 have HM:=lH hm
 have H0:=lH h0
 clear hr h hm hzz h0
 go_enter Tryz.func195,Tryz.ntmps195
 go_wp2_with fail
 refine(HV.out _).mono ?_
 rintro e w1 ⟨rfl,hb⟩
 have hz:w.heap.size+2≤w1.heap.size:=by have:=hb.size;simp at this;omega
 have hbw:Below w.heap.size w w1:=Below.trans (by go_grown) (hb.mono (by simp;omega))
 have f0:∀ o,w1.frozen? ⟨w.heap.size,o,none⟩=false:=fun o=>((xag hb).2 _ _ (by simp;omega)).trans (by simp[go_sem])
 have f1:∀ o,w1.frozen? ⟨w.heap.size+1,o,none⟩=false:=fun o=>((xag hb).2 _ _ (by simp)).trans (by simp[go_sem])
 have c0:w1.cell? ⟨w.heap.size,0,none⟩=some (.string t):=((xag hb).1 _ _ (by simp;omega)).trans (by simp[go_sem])
 have c1:w1.cell? ⟨w.heap.size,1,none⟩=some (.int .i64 p):=((xag hb).1 _ _ (by simp;omega)).trans (by simp[go_sem])
 have c2:w1.cell? ⟨w.heap.size,2,none⟩=some (.int .i64 0):=((xag hb).1 _ _ (by simp;omega)).trans (by simp[go_sem])
 have c3:w1.cell? ⟨w.heap.size+1,0,none⟩=some (.string { data:=#[] }):=((xag hb).1 _ _ (by simp)).trans (by simp[go_sem])
 have c4:w1.cell? ⟨w.heap.size+1,1,none⟩=some (.int .i64 0):=((xag hb).1 _ _ (by simp)).trans (by simp[go_sem])
 have c5:w1.cell? ⟨w.heap.size+1,2,none⟩=some (.int .i64 0):=((xag hb).1 _ _ (by simp)).trans (by simp[go_sem])
 clear hb HV
 go_wp2_with fail
 refine(xlo t p _ HM.out H0.out p0 p1).mono ?_
 rintro e w2 ⟨rfl,hb⟩
 have hz2:w1.heap.size≤w2.heap.size:=by have:=hb.size;simp only[World.size_setCell] at this;exact this
 have hbw2:Below w.heap.size w w2:=Below.trans (by go_grown) (hb.mono (by simp only[World.size_setCell];omega))
 have g0:∀ o,w2.frozen? ⟨w.heap.size,o,none⟩=false:=fun o=>((xag hb).2 _ _ (by simp only[World.size_setCell];omega)).trans (by simp[go_sem,f0])
 have g1:∀ o,w2.frozen? ⟨w.heap.size+1,o,none⟩=false:=fun o=>((xag hb).2 _ _ (by simp only[World.size_setCell];omega)).trans (by simp[go_sem,f1])
 have d0:w2.cell? ⟨w.heap.size,0,none⟩=some (.string t):=((xag hb).1 _ _ (by simp only[World.size_setCell];omega)).trans (by simp[go_sem,c0])
 have d1:w2.cell? ⟨w.heap.size,1,none⟩=some (.int .i64 p):=((xag hb).1 _ _ (by simp only[World.size_setCell];omega)).trans (by simp[go_sem,c1])
 have d2:w2.cell? ⟨w.heap.size,2,none⟩=some (.int .i64 0):=((xag hb).1 _ _ (by simp only[World.size_setCell];omega)).trans (by simp[go_sem,c2])
 have d3:w2.cell? ⟨w.heap.size+1,0,none⟩=some (.string { data:=#[] }):=((xag hb).1 _ _ (by simp only[World.size_setCell];omega)).trans (by simp[go_sem,c3])
 have d4:w2.cell? ⟨w.heap.size+1,1,none⟩=some (.int .i64 0):=((xag hb).1 _ _ (by simp only[World.size_setCell];omega)).trans (by simp[go_sem,c4])
 have d5:w2.cell? ⟨w.heap.size+1,2,none⟩=some (.int .i64 0):=((xag hb).1 _ _ (by simp only[World.size_setCell];omega)).trans (by simp[go_sem,c5])
 clear hb c0 c1 c2 c3 c4 c5 f0 f1 hbw
 go_wp2_with fail
 refine(HF.out _).mono ?_
 rintro e w3 ⟨rfl,rfl⟩
 clear HF
 go_wp2_with fail
 go_region
 all_goals
  go_wp2
  refine bodyPost_ret (v:=.tuple #[.int .u64 0,.agg #[.string t,.int .i64 p,.int .i64 r]]) (by simp[results,Tryz.results195,go_sem,d3,d4,d5]) rfl ⟨rfl,?_⟩
  go_grown
theorem xyF (t:ByteArray) (p q x n:Int) (w:World) (hm:t.size≤maxLen) (h0:xbq t p q=0) (hr:xbj (rst t p)=0) (hx:xaZ (rst t p)=x) (hn:xl0 (rst t p)=n):Calls Tryz.prog 195 #[.agg #[.string t,.int .i64 p,.int .i64 q]] w (xcX t x (p+n) 0 w):=by
 have HV:=lH (fun W=>h0 ▸ xdU t p q W hm)
 obtain⟨rfl,p0,p1⟩:=xeV t p q h0
 have hcb:=xus t p p0 p1 hr
 rw[hn] at hcb
 have hzz:(t.extract p.toNat t.size).size≤maxLen:=by simp;omega
 have HF:Hid (∀ W,Calls Tryz.prog 268 #[.string (t.extract p.toNat t.size)] W fun e w'=>e=.returned (.tuple #[.int .u64 x,.int .i64 n,.int .i64 0])∧W=w'):=by
  apply lH
  intro W
  have:=xhu (t.extract p.toNat t.size) W hzz
  rw[xih,hr,(xjp _ hr).1,(xjp _ hr).2,hx,hn] at this
  exact this
 have HM:=lH hm
 have H0:=lH h0
 have hm63:=hm
 unfold maxLen at hm63
 clear hr hm hzz h0 hx hn
 obtain⟨n0,n1,n2⟩:=hcb
 go_enter Tryz.func195,Tryz.ntmps195
 go_wp2_with fail
 refine(HV.out _).mono ?_
 rintro e w1 ⟨rfl,hb⟩
 have hz:w.heap.size+2≤w1.heap.size:=by have:=hb.size;simp at this;omega
 have hbw:Below w.heap.size w w1:=Below.trans (by go_grown) (hb.mono (by simp;omega))
 have f0:∀ o,w1.frozen? ⟨w.heap.size,o,none⟩=false:=fun o=>((xag hb).2 _ _ (by simp;omega)).trans (by simp[go_sem])
 have f1:∀ o,w1.frozen? ⟨w.heap.size+1,o,none⟩=false:=fun o=>((xag hb).2 _ _ (by simp)).trans (by simp[go_sem])
 have c0:w1.cell? ⟨w.heap.size,0,none⟩=some (.string t):=((xag hb).1 _ _ (by simp;omega)).trans (by simp[go_sem])
 have c1:w1.cell? ⟨w.heap.size,1,none⟩=some (.int .i64 p):=((xag hb).1 _ _ (by simp;omega)).trans (by simp[go_sem])
 have c2:w1.cell? ⟨w.heap.size,2,none⟩=some (.int .i64 0):=((xag hb).1 _ _ (by simp;omega)).trans (by simp[go_sem])
 have c3:w1.cell? ⟨w.heap.size+1,0,none⟩=some (.string { data:=#[] }):=((xag hb).1 _ _ (by simp)).trans (by simp[go_sem])
 have c4:w1.cell? ⟨w.heap.size+1,1,none⟩=some (.int .i64 0):=((xag hb).1 _ _ (by simp)).trans (by simp[go_sem])
 have c5:w1.cell? ⟨w.heap.size+1,2,none⟩=some (.int .i64 0):=((xag hb).1 _ _ (by simp)).trans (by simp[go_sem])
 clear hb HV
 go_wp2_with fail
 refine(xlo t p _ HM.out H0.out p0 p1).mono ?_
 rintro e w2 ⟨rfl,hb⟩
 have hz2:w1.heap.size≤w2.heap.size:=by have:=hb.size;simp only[World.size_setCell] at this;exact this
 have hbw2:Below w.heap.size w w2:=Below.trans (by go_grown) (hb.mono (by simp only[World.size_setCell];omega))
 have g0:∀ o,w2.frozen? ⟨w.heap.size,o,none⟩=false:=fun o=>((xag hb).2 _ _ (by simp only[World.size_setCell];omega)).trans (by simp[go_sem,f0])
 have g1:∀ o,w2.frozen? ⟨w.heap.size+1,o,none⟩=false:=fun o=>((xag hb).2 _ _ (by simp only[World.size_setCell];omega)).trans (by simp[go_sem,f1])
 have d0:w2.cell? ⟨w.heap.size,0,none⟩=some (.string t):=((xag hb).1 _ _ (by simp only[World.size_setCell];omega)).trans (by simp[go_sem,c0])
 have d1:w2.cell? ⟨w.heap.size,1,none⟩=some (.int .i64 p):=((xag hb).1 _ _ (by simp only[World.size_setCell];omega)).trans (by simp[go_sem,c1])
 have d2:w2.cell? ⟨w.heap.size,2,none⟩=some (.int .i64 0):=((xag hb).1 _ _ (by simp only[World.size_setCell];omega)).trans (by simp[go_sem,c2])
 have d3:w2.cell? ⟨w.heap.size+1,0,none⟩=some (.string { data:=#[] }):=((xag hb).1 _ _ (by simp only[World.size_setCell];omega)).trans (by simp[go_sem,c3])
 have d4:w2.cell? ⟨w.heap.size+1,1,none⟩=some (.int .i64 0):=((xag hb).1 _ _ (by simp only[World.size_setCell];omega)).trans (by simp[go_sem,c4])
 have d5:w2.cell? ⟨w.heap.size+1,2,none⟩=some (.int .i64 0):=((xag hb).1 _ _ (by simp only[World.size_setCell];omega)).trans (by simp[go_sem,c5])
 clear hb c0 c1 c2 c3 c4 c5 f0 f1 hbw
 go_wp2_with fail
 refine(HF.out _).mono ?_
 rintro e w3 ⟨rfl,rfl⟩
 clear HF
 go_wp2_with fail
 go_region
 all_goals
  go_wp2
  refine bodyPost_ret (v:=.tuple #[.int .u64 x,.agg #[.string t,.int .i64 (p+n),.int .i64 0]]) (by simp[results,Tryz.results195,go_sem,d3,d4,d5]) rfl ⟨rfl,?_⟩
  go_grown
set_option maxRecDepth 20000 in
theorem xjB (t:ByteArray) (w:World) (hm:t.size≤maxLen):Calls Tryz.prog 191 #[.string t] w fun e w'=>e=.returned (.tuple #[.int .i64 (xbj t.data.toList),.int .i64 (xuh t.data.toList)])∧w=w':=by
 unfold maxLen at hm
 obtain⟨l,hl⟩:∃ l,t.data.toList=l:=⟨_,rfl⟩
 have hlen:l.length=t.size:=by rw[← hl];simp
 have hat:∀ k (h:k<t.size),(l.getD k 0).toNat=t[k].toNat:=fun k h=>by rw[← hl,xkp t k h]
 rw[hl]
 have HAT:=lH hat;have HLEN:=lH hlen;clear hat hlen hl
 obtain⟨N,hN⟩:∃ N,xuh l=N:=⟨_,rfl⟩
 obtain⟨E,hE⟩:∃ E,xbj l=E:=⟨_,rfl⟩
 rw[hN,hE]
 have HN:=lH hN;have HE:=lH hE;clear hN hE
 go_enter Tryz.func191,Tryz.ntmps191
 go_wp2_with fail
 go_loop [4] (fun i=>∃ (k:Nat),k≤xaK 10 l∧i=.int .i64 k) (fun i=>10 - (intOf i).toNat)
 case atStart=>exact⟨0,Nat.zero_le _,rfl⟩
 case round =>
  obtain⟨k,hk,rfl⟩:=hrel
  have hll:=xgb 10 l
  by_cases h10:k=10
  ·subst h10
   have HF:Hid (N=0∧E=11):=by
    have hl:xaK 10 l=10:=by omega
    have he:xbj l=11:=by unfold xbj;rw[if_pos hl]
    have:=xc7 l 11 he (by decide)
    exact lH ⟨by rw[← HN.out,this.2],by rw[← HE.out,he]⟩
   have hlen:=HLEN.out
   by_cases hz:t.size=10
   ·have hd:decide ((10:Int)<(t.size:Int))=false:=by simp;omega
    clear hll hk
    go_wp2_with fail
    go_ret2
    exact⟨xoj HF.out.2.symm HF.out.1.symm,rfl⟩
   ·have hd:(10:Int)<(t.size:Int):=by omega
    clear hll hk
    go_wp2_with fail
    go_ret2
    exact⟨xoj HF.out.2.symm HF.out.1.symm,rfl⟩
  ·have hk9:((k:Int) == 10)=false:=by simp;omega
   by_cases hn:k=t.size
   ·subst hn
    have HF:Hid (N=0∧E=3):=by
     have hl:xaK 10 l=t.size:=by have:=HLEN.out;omega
     have he:xbj l=3:=by have:=HLEN.out;unfold xbj;rw[if_neg (by omega),if_pos (by omega)]
     have:=xc7 l 3 he (by decide)
     exact lH ⟨by rw[← HN.out,this.2],by rw[← HE.out,he]⟩
    clear hll hk
    go_wp2_with fail
    go_ret2
    exact⟨xoj HF.out.2.symm HF.out.1.symm,rfl⟩
   ·have hlt:k<t.size:=by have:=HLEN.out;omega
    have h10':k<10:=by omega
    have hk0:(0:Int)≤(k:Int):=Int.natCast_nonneg _
    have hk1:(k:Int)<(t.size:Int):=by omega
    have hk2:(k:Int)<10:=by omega
    have hkt:((k:Int) == (t.size:Int))=false:=by simp;omega
    have hca:=HAT.out k hlt
    have hcb:t[k].toNat<256:=xhS _
    by_cases hc:128≤t[k].toNat
    ·have HK:Hid (k+1≤xaK 10 l):=lH (xgv 10 l k hk h10' (by rw[HLEN.out];exact hlt) (by rw[hca];exact hc))
     clear hca hll hk
     go_wp2_with fail
     exact⟨⟨k+1,HK.out,by go_num⟩,by simp[intOf];omega⟩
    ·have HS:=lH (xpx l k _ hk (by rw[HLEN.out];exact hlt) h10' hca (by omega))
     clear hca hll hk
     by_cases hA:k=9∧1<t[k].toNat
     ·have HF:Hid (N=0∧E=11):=by
       have he:=HS.out.1 hA
       have:=xc7 l 11 he (by decide)
       exact lH ⟨by rw[← HN.out,this.2],by rw[← HE.out,he]⟩
      clear HS
      obtain⟨rfl,hA2⟩:=hA
      go_wp2_with fail
      go_ret2
      exact⟨xoj HF.out.2.symm HF.out.1.symm,rfl⟩
     ·by_cases hB:0<k∧t[k].toNat=0
      ·have HF:Hid (N=0∧E=4):=by
        have he:=HS.out.2.1 hA hB
        have:=xc7 l 4 he (by decide)
        exact lH ⟨by rw[← HN.out,this.2],by rw[← HE.out,he]⟩
       clear HS
       obtain⟨hB1,hB2⟩:=hB
       have hc0:((t[k].toNat:Int) == 0)=true:=by simp;omega
       have hc1:(t[k].toNat:Int)≤1:=by omega
       by_cases h9:k=9
       ·subst h9
        go_wp2_with fail
        go_ret2
        exact⟨xoj HF.out.2.symm HF.out.1.symm,rfl⟩
       ·have h9':((k:Int) == 9)=false:=by simp;omega
        go_wp2_with fail
        go_ret2
        exact⟨xoj HF.out.2.symm HF.out.1.symm,rfl⟩
      ·have hs:=HS.out.2.2 hA hB
       have hf:=xjp l hs.1
       have HF:Hid (N=(k:Int)+1∧E=0) :=
        lH ⟨by rw[← HN.out,hf.2,hs.2.1],by rw[← HE.out,hs.1]⟩
       clear HS hs hf
       by_cases h9:k=9
       ·subst h9
        have hc0:((t[9].toNat:Int) == 0)=false:=by simp;omega
        have hc1:(t[9].toNat:Int)≤1:=by omega
        go_wp2_with fail
        go_ret2
        exact⟨xoj HF.out.2.symm HF.out.1.symm,rfl⟩
       ·have h9':((k:Int) == 9)=false:=by simp;omega
        by_cases hk00:k=0
        ·subst hk00
         go_wp2_with fail
         go_ret2
         exact⟨xoj HF.out.2.symm HF.out.1.symm,rfl⟩
        ·have hc0:((t[k].toNat:Int) == 0)=false:=by simp;omega
         have hkp:0<k:=by omega
         go_wp2_with fail
         go_ret2
         exact⟨xoj HF.out.2.symm HF.out.1.symm,rfl⟩
theorem xwP (t:ByteArray) (p r:Int) (w:World) (hm:t.size≤maxLen) (p0:0≤p) (p1:p≤t.size) (hr:xbj (rst t p)=r) (h:r≠0):Calls Tryz.prog 105 #[.agg #[.string t,.int .i64 p,.int .i64 0]] w (xcX t 0 p r w):=by
 have hne:(r != 0)=true:=by simp only[bne_iff_ne,ne_eq];exact h
 have hzz:(t.extract p.toNat t.size).size≤maxLen:=by simp;omega
 have HF:Hid (∀ W,Calls Tryz.prog 191 #[.string (t.extract p.toNat t.size)] W fun e w'=>e=.returned (.tuple #[.int .i64 r,.int .i64 0])∧W=w'):=by
  apply lH
  intro W
  have:=xjB (t.extract p.toNat t.size) W hzz
  rw[xih,hr,(xc7 _ r hr h).2] at this
  exact this
 unfold maxLen at hm
 clear hr h hzz
 go_enter Tryz.func105,Tryz.ntmps105
 go_wp2_with fail
 refine(HF.out _).mono ?_
 rintro e w3 ⟨rfl,rfl⟩
 clear HF
 go_wp2_with fail
 go_region
 all_goals
  go_wp2
  refine bodyPost_ret (v:=.tuple #[.int .u64 0,.agg #[.string t,.int .i64 p,.int .i64 r]]) (by simp[results,Tryz.results105,go_sem]) rfl ⟨rfl,?_⟩
  go_grown
theorem xnv (t:ByteArray) (p:Int) (c k:Nat) (p0:0≤p) (hk:1≤k) (hc:k≤c) (hp:p+c≤t.size) (h:(p+((k:Int) - 1)).toNat<t.size) :
  xch (((rst t p).take c).drop (k - 1))=((t[(p+((k:Int) - 1)).toNat].toNat:Int) % 128)+128*xch (((rst t p).take c).drop k):=by
 have hl:((rst t p).length:Int)=t.size - p:=xkq t p p0 (by omega)
 have hL:((rst t p).take c).length=c:=by rw[List.length_take];omega
 rw[xq3 _ (k - 1) (by omega),show k - 1+1=k from by omega]
 congr 2
 have e:(((rst t p).take c).getD (k - 1) 0)=t[(p+((k:Int) - 1)).toNat]:=by
  rw[← xkp t _ h]
  unfold rst
  have:p.toNat+(k - 1)=(p+((k:Int) - 1)).toNat:=by omega
  simp[List.getD,show k - 1<c from by omega,this]
 rw[e]
theorem xxF (L:List UInt8) (k:Nat) (h:xch L≤18446744073709551615):0≤xch (L.drop k)∧xch (L.drop k)≤18446744073709551615:=⟨(xdR _).1,by have:=xi6 L k;omega⟩
theorem xxP (t:ByteArray) (p:Int) (w:World) (hm:t.size≤maxLen) (p0:0≤p) (p1:p≤t.size) (hr:xbj (rst t p)=0):Calls Tryz.prog 105 #[.agg #[.string t,.int .i64 p,.int .i64 0]] w (xcX t (xaZ (rst t p)) (p+xl0 (rst t p)) 0 w):=by
 have hcb:=xus t p p0 p1 hr
 have hvb:=xct _ hr
 have hzz:(t.extract p.toNat t.size).size≤maxLen:=by simp;omega
 obtain⟨c,hc⟩:∃ c:Nat,xl0 (rst t p)=c:=⟨_,rfl⟩
 have hcv:xaZ (rst t p)=xch ((rst t p).take c):=by
  have:xaK 10 (rst t p)+1=c:=by unfold xl0 at hc;omega
  unfold xaZ;rw[this]
 have HF:Hid (∀ W,Calls Tryz.prog 191 #[.string (t.extract p.toNat t.size)] W fun e w'=>e=.returned (.tuple #[.int .i64 0,.int .i64 c])∧W=w'):=by
  apply lH
  intro W
  have:=xjB (t.extract p.toNat t.size) W hzz
  rw[xih,hr,(xjp _ hr).2,hc] at this
  exact this
 have HS:=lH (fun k=>xnv t p c k p0)
 rw[hcv] at hvb ⊢
 rw[hc] at hcb ⊢
 have HD:=lH (fun k=>xxF ((rst t p).take c) k hvb.2)
 clear hcv hc hr
 obtain⟨cb0,cb1,cb2⟩:=hcb
 generalize hL:(rst t p).take c=L at *
 unfold maxLen at hm
 have hLl:L.length=c:=by
  have hl:((rst t p).length:Int)=t.size - p:=xkq t p p0 p1
  rw[← hL,List.length_take];omega
 have HL:=lH hLl
 clear hL hvb hzz hLl
 go_enter Tryz.func105,Tryz.ntmps105
 go_wp2_with fail
 refine(HF.out _).mono ?_
 rintro e w3 ⟨rfl,rfl⟩
 clear HF
 go_wp2_with fail
 go_loop [6,7] (fun x i=>∃ k:Nat,k≤c∧i=.int .i64 ((k:Int) - 1)∧x=.int .u64 (xch (L.drop k))) (fun _ i=>(intOf i+1).toNat)
 case atStart=>exact⟨c,Nat.le_refl _,rfl,by rw[List.drop_of_length_le (by rw[HL.out];exact Nat.le_refl _)];rfl⟩
 case round =>
  obtain⟨k,hk,rfl,rfl⟩:=hrel
  by_cases hlt:1≤k
  ·have hs:=HS.out k hlt hk cb1 (by omega)
   have hb1:=HD.out (k - 1)
   have hb2:=HD.out k
   generalize hy:xch (L.drop k)=y at *
   have hi0:0≤p+((k:Int) - 1):=by omega
   have hi1:p+((k:Int) - 1)<t.size:=by omega
   rw[hs] at hb1
   obtain⟨s0,s1⟩:=hb1
   obtain⟨y0,y1⟩:=hb2
   have HS1:=lH hs
   have HY:=lH hy
   clear hs hy
   go_wp2_with fail
   refine⟨⟨k - 1,by omega,by congr 1;omega,by rw[HS1.out];congr 1;omega⟩,by simp[intOf];omega⟩
  ·obtain rfl:k=0:=by omega
   obtain⟨y,hy⟩:∃ y,xch L=y:=⟨_,rfl⟩
   rw[List.drop_zero,hy]
   have HY:=lH hy
   clear HS HD HL hy
   have hi0:((0:Nat):Int) - 1=-1:=rfl
   go_wp2_with fail
   go_region
   all_goals
    go_wp2
    refine bodyPost_ret (v:=.tuple #[.int .u64 y,.agg #[.string t,.int .i64 (p+c),.int .i64 0]]) (by simp[results,Tryz.results105,go_sem]) rfl ⟨by rw[HY.out],?_⟩
    go_grown
end Go.Proofs.YtjinnigjfopbcaaGreatDoor
namespace Go.Proofs.YtjinnigjfopbcaaGreatDoor
set_option linter.unusedVariables false
set_option linter.unusedSimpArgs false
open Go.RowKit
set_option maxRecDepth 20000
theorem xpl {l:List En} {k:Nat} {e:En} (h:l[k]?=some e):gE l k=e:=by
 unfold gE;rw[List.getD_eq_getElem?_getD,h];rfl
def xs3 (l:List En):Int:=if xa5 l=0 then (if 65536<(xcN l).length then 5 else 0) else xa5 l
def xj7 (l:List En):ByteArray:=if xs3 l=0 then str (xcN l) else ByteArray.mk #[]
def xs5 (l:List En):Int:=if xa5 l=0 then (xcN l).length else 0
set_option maxRecDepth 20000 in
theorem xzj (v:Value) (l:List En) (x:Int) (w:World) (hv:xaj w v l) (hm:xas l) (x0:0≤x) (x1:x≤18446744073709551615):Calls Tryz.prog 106 #[v,.int .i64 0,.int .i64 0,.int .u64 x] w fun e w'=>e=.returned (.int .i64 0)∧Below w.heap.size w w':=by
 obtain⟨al,cap,rfl,hcap,hcm,hc⟩:=hv
 clear hc hm
 go_enter Tryz.func106,Tryz.ntmps106
 go_wp2_with fail
 first
 | (go_ret;exact⟨rfl,by go_grown⟩)
 | (go_region;all_goals (go_wp2_with fail;go_ret;exact⟨rfl,by go_grown⟩))
set_option maxRecDepth 20000 in
theorem xy1 (v:Value) (l:List En) (k j:Nat) (f:En) (x:Int) (w:World) (hv:xaj w v l) (hm:xas l) (x0:0≤x) (x1:x≤18446744073709551615) (hj:k=j+1) (hl:k<l.length) (hf:l[j]?=some f) (hq:18446744073709551616≤f.id+x):Calls Tryz.prog 106 #[v,.int .i64 0,.int .i64 (k:Int),.int .u64 x] w fun e w'=>e=.returned (.int .i64 11)∧Below w.heap.size w w':=by
 obtain⟨al,cap,rfl,hcap,hcm,hc⟩:=hv
 obtain⟨g,off,rfl,hg,m0,m1,m2,m3⟩:=hc j f hf
 have hmf:=hm f (List.mem_of_getElem? hf)
 have hd:decide (0<(k:Int))=true:=by simp;omega
 have hdn:decide (0<k)=true:=by simp;omega
 have hb0:((k:Int) == 0)=false:=by simp;omega
 have hk1:(k:Int) - 1=(j:Int):=by omega
 have hjl:(j:Int)<(l.length:Int):=by omega
 unfold maxLen at hcm
 have hk2:IntKind.i64.wrap (j:Int)=(j:Int):=by rw[IntKind.wrap_i64] <;> omega
 have r3:IntKind.u64.wrap f.ln=f.ln:=by unfold xaY at hmf;rw[wrap_u64];omega
 have hz:decide (IntKind.u64.wrap (f.id+x)<x)=true:=by unfold xaY at hmf;rw[wrap_u64];simp;omega
 clear hq
 clear hc hm hmf hj hf
 go_enter Tryz.func106,Tryz.ntmps106
 go_wp2_with fail
 first
 | (go_ret;exact⟨rfl,by go_grown⟩)
 | (go_region;all_goals (go_wp2_with fail;go_ret;exact⟨rfl,by go_grown⟩))
set_option maxRecDepth 20000 in
theorem xy9 (v:Value) (l:List En) (k j:Nat) (f:En) (x:Int) (w:World) (hv:xaj w v l) (hm:xas l) (x0:0≤x) (x1:x≤18446744073709551615) (hj:k=j+1) (hl:k<l.length) (hf:l[j]?=some f) (hq:¬ 18446744073709551616≤f.id+x):Calls Tryz.prog 106 #[v,.int .i64 0,.int .i64 (k:Int),.int .u64 x] w fun e w'=>e=.returned (.int .i64 0)∧Below w.heap.size w w':=by
 obtain⟨al,cap,rfl,hcap,hcm,hc⟩:=hv
 obtain⟨g,off,rfl,hg,m0,m1,m2,m3⟩:=hc j f hf
 have hmf:=hm f (List.mem_of_getElem? hf)
 have hd:decide (0<(k:Int))=true:=by simp;omega
 have hdn:decide (0<k)=true:=by simp;omega
 have hb0:((k:Int) == 0)=false:=by simp;omega
 have hk1:(k:Int) - 1=(j:Int):=by omega
 have hjl:(j:Int)<(l.length:Int):=by omega
 unfold maxLen at hcm
 have hk2:IntKind.i64.wrap (j:Int)=(j:Int):=by rw[IntKind.wrap_i64] <;> omega
 have r3:IntKind.u64.wrap f.ln=f.ln:=by unfold xaY at hmf;rw[wrap_u64];omega
 have hz:decide (IntKind.u64.wrap (f.id+x)<x)=false:=by unfold xaY at hmf;rw[wrap_u64];simp;omega
 clear hq
 clear hc hm hmf hj hf
 go_enter Tryz.func106,Tryz.ntmps106
 go_wp2_with fail
 first
 | (go_ret;exact⟨rfl,by go_grown⟩)
 | (go_region;all_goals (go_wp2_with fail;go_ret;exact⟨rfl,by go_grown⟩))
set_option maxRecDepth 20000 in
theorem xy6 (v:Value) (l:List En) (x:Int) (w:World) (hv:xaj w v l) (hm:xas l) (x0:0≤x) (x1:x≤18446744073709551615) (K:Int) (hq:4294967295<x):Calls Tryz.prog 106 #[v,.int .i64 1,.int .i64 K,.int .u64 x] w fun e w'=>e=.returned (.int .i64 11)∧Below w.heap.size w w':=by
 obtain⟨al,cap,rfl,hcap,hcm,hc⟩:=hv
 have hz:decide (4294967295<x)=true:=by simp;omega
 clear hq
 clear hc hm
 go_enter Tryz.func106,Tryz.ntmps106
 go_wp2_with fail
 first
 | (go_ret;exact⟨rfl,by go_grown⟩)
 | (go_region;all_goals (go_wp2_with fail;go_ret;exact⟨rfl,by go_grown⟩))
set_option maxRecDepth 20000 in
theorem xy2 (v:Value) (l:List En) (x:Int) (w:World) (hv:xaj w v l) (hm:xas l) (x0:0≤x) (x1:x≤18446744073709551615) (K:Int) (hq:¬ 4294967295<x):Calls Tryz.prog 106 #[v,.int .i64 1,.int .i64 K,.int .u64 x] w fun e w'=>e=.returned (.int .i64 0)∧Below w.heap.size w w':=by
 obtain⟨al,cap,rfl,hcap,hcm,hc⟩:=hv
 have hz:decide (4294967295<x)=false:=by simp;omega
 clear hq
 clear hc hm
 go_enter Tryz.func106,Tryz.ntmps106
 go_wp2_with fail
 first
 | (go_ret;exact⟨rfl,by go_grown⟩)
 | (go_region;all_goals (go_wp2_with fail;go_ret;exact⟨rfl,by go_grown⟩))
set_option maxRecDepth 20000 in
theorem xze (v:Value) (l:List En) (x:Int) (w:World) (hv:xaj w v l) (hm:xas l) (x0:0≤x) (x1:x≤18446744073709551615) (K:Int) (hq:4294967295<x):Calls Tryz.prog 106 #[v,.int .i64 2,.int .i64 K,.int .u64 x] w fun e w'=>e=.returned (.int .i64 11)∧Below w.heap.size w w':=by
 obtain⟨al,cap,rfl,hcap,hcm,hc⟩:=hv
 have hz:decide (4294967295<x)=true:=by simp;omega
 clear hq
 clear hc hm
 go_enter Tryz.func106,Tryz.ntmps106
 go_wp2_with fail
 first
 | (go_ret;exact⟨rfl,by go_grown⟩)
 | (go_region;all_goals (go_wp2_with fail;go_ret;exact⟨rfl,by go_grown⟩))
set_option maxRecDepth 20000 in
theorem xy8 (v:Value) (l:List En) (x:Int) (w:World) (hv:xaj w v l) (hm:xas l) (x0:0≤x) (x1:x≤18446744073709551615) (K:Int) (hq:¬ 4294967295<x):Calls Tryz.prog 106 #[v,.int .i64 2,.int .i64 K,.int .u64 x] w fun e w'=>e=.returned (.int .i64 0)∧Below w.heap.size w w':=by
 obtain⟨al,cap,rfl,hcap,hcm,hc⟩:=hv
 have hz:decide (4294967295<x)=false:=by simp;omega
 clear hq
 clear hc hm
 go_enter Tryz.func106,Tryz.ntmps106
 go_wp2_with fail
 first
 | (go_ret;exact⟨rfl,by go_grown⟩)
 | (go_region;all_goals (go_wp2_with fail;go_ret;exact⟨rfl,by go_grown⟩))
set_option maxRecDepth 20000 in
theorem xyP (v:Value) (l:List En) (x:Int) (w:World) (hv:xaj w v l) (hm:xas l) (x0:0≤x) (x1:x≤18446744073709551615) (hq:x=0):Calls Tryz.prog 106 #[v,.int .i64 3,.int .i64 0,.int .u64 x] w fun e w'=>e=.returned (.int .i64 4)∧Below w.heap.size w w':=by
 obtain⟨al,cap,rfl,hcap,hcm,hc⟩:=hv
 have hz:(x == 0)=true:=by simp;omega
 clear hq
 clear hc hm
 go_enter Tryz.func106,Tryz.ntmps106
 go_wp2_with fail
 first
 | (go_ret;exact⟨rfl,by go_grown⟩)
 | (go_region;all_goals (go_wp2_with fail;go_ret;exact⟨rfl,by go_grown⟩))
set_option maxRecDepth 20000 in
theorem xy5 (v:Value) (l:List En) (x:Int) (w:World) (hv:xaj w v l) (hm:xas l) (x0:0≤x) (x1:x≤18446744073709551615) (hq:¬ x=0):Calls Tryz.prog 106 #[v,.int .i64 3,.int .i64 0,.int .u64 x] w fun e w'=>e=.returned (.int .i64 0)∧Below w.heap.size w w':=by
 obtain⟨al,cap,rfl,hcap,hcm,hc⟩:=hv
 have hz:(x == 0)=false:=by simp;omega
 clear hq
 clear hc hm
 go_enter Tryz.func106,Tryz.ntmps106
 go_wp2_with fail
 first
 | (go_ret;exact⟨rfl,by go_grown⟩)
 | (go_region;all_goals (go_wp2_with fail;go_ret;exact⟨rfl,by go_grown⟩))
set_option maxRecDepth 20000 in
theorem xwV (v:Value) (l:List En) (k j:Nat) (f:En) (x:Int) (w:World) (hv:xaj w v l) (hm:xas l) (x0:0≤x) (x1:x≤18446744073709551615) (hj:k=j+1) (hl:k<l.length) (hf:l[j]?=some f) (hq:x=0):Calls Tryz.prog 106 #[v,.int .i64 3,.int .i64 (k:Int),.int .u64 x] w fun e w'=>e=.returned (.int .i64 0)∧Below w.heap.size w w':=by
 obtain⟨al,cap,rfl,hcap,hcm,hc⟩:=hv
 obtain⟨g,off,rfl,hg,m0,m1,m2,m3⟩:=hc j f hf
 have hmf:=hm f (List.mem_of_getElem? hf)
 have hd:decide (0<(k:Int))=true:=by simp;omega
 have hdn:decide (0<k)=true:=by simp;omega
 have hb0:((k:Int) == 0)=false:=by simp;omega
 have hk1:(k:Int) - 1=(j:Int):=by omega
 have hjl:(j:Int)<(l.length:Int):=by omega
 unfold maxLen at hcm
 have hk2:IntKind.i64.wrap (j:Int)=(j:Int):=by rw[IntKind.wrap_i64] <;> omega
 have r3:IntKind.u64.wrap f.ln=f.ln:=by unfold xaY at hmf;rw[wrap_u64];omega
 have hz:decide (0<x)=false:=by simp;omega
 clear hq
 clear hc hm hmf hj hf
 go_enter Tryz.func106,Tryz.ntmps106
 go_wp2_with fail
 first
 | (go_ret;exact⟨rfl,by go_grown⟩)
 | (go_region;all_goals (go_wp2_with fail;go_ret;exact⟨rfl,by go_grown⟩))
set_option maxRecDepth 20000 in
theorem xzn (v:Value) (l:List En) (k j:Nat) (f:En) (x:Int) (w:World) (hv:xaj w v l) (hm:xas l) (x0:0≤x) (x1:x≤18446744073709551615) (hj:k=j+1) (hl:k<l.length) (hf:l[j]?=some f) (hp:0<x) (hq:x - 1=IntKind.u64.wrap (f.off+f.ln)):Calls Tryz.prog 106 #[v,.int .i64 3,.int .i64 (k:Int),.int .u64 x] w fun e w'=>e=.returned (.int .i64 4)∧Below w.heap.size w w':=by
 obtain⟨al,cap,rfl,hcap,hcm,hc⟩:=hv
 obtain⟨g,off,rfl,hg,m0,m1,m2,m3⟩:=hc j f hf
 have hmf:=hm f (List.mem_of_getElem? hf)
 have hd:decide (0<(k:Int))=true:=by simp;omega
 have hdn:decide (0<k)=true:=by simp;omega
 have hb0:((k:Int) == 0)=false:=by simp;omega
 have hk1:(k:Int) - 1=(j:Int):=by omega
 have hjl:(j:Int)<(l.length:Int):=by omega
 unfold maxLen at hcm
 have hk2:IntKind.i64.wrap (j:Int)=(j:Int):=by rw[IntKind.wrap_i64] <;> omega
 have r3:IntKind.u64.wrap f.ln=f.ln:=by unfold xaY at hmf;rw[wrap_u64];omega
 have hz:decide (0<x)=true:=by simp;omega
 have hz2:(IntKind.u64.wrap (x - 1) == IntKind.u64.wrap (f.off+f.ln))=true:=by rw[← hq,wrap_u64];simp;omega
 clear hq hp
 clear hc hm hmf hj hf
 go_enter Tryz.func106,Tryz.ntmps106
 go_wp2_with fail
 first
 | (go_ret;exact⟨rfl,by go_grown⟩)
 | (go_region;all_goals (go_wp2_with fail;go_ret;exact⟨rfl,by go_grown⟩))
set_option maxRecDepth 20000 in
theorem xzw (v:Value) (l:List En) (k j:Nat) (f:En) (x:Int) (w:World) (hv:xaj w v l) (hm:xas l) (x0:0≤x) (x1:x≤18446744073709551615) (hj:k=j+1) (hl:k<l.length) (hf:l[j]?=some f) (hp:0<x) (hq:¬ x - 1=IntKind.u64.wrap (f.off+f.ln)):Calls Tryz.prog 106 #[v,.int .i64 3,.int .i64 (k:Int),.int .u64 x] w fun e w'=>e=.returned (.int .i64 0)∧Below w.heap.size w w':=by
 obtain⟨al,cap,rfl,hcap,hcm,hc⟩:=hv
 obtain⟨g,off,rfl,hg,m0,m1,m2,m3⟩:=hc j f hf
 have hmf:=hm f (List.mem_of_getElem? hf)
 have hd:decide (0<(k:Int))=true:=by simp;omega
 have hdn:decide (0<k)=true:=by simp;omega
 have hb0:((k:Int) == 0)=false:=by simp;omega
 have hk1:(k:Int) - 1=(j:Int):=by omega
 have hjl:(j:Int)<(l.length:Int):=by omega
 unfold maxLen at hcm
 have hk2:IntKind.i64.wrap (j:Int)=(j:Int):=by rw[IntKind.wrap_i64] <;> omega
 have r3:IntKind.u64.wrap f.ln=f.ln:=by unfold xaY at hmf;rw[wrap_u64];omega
 have hz:decide (0<x)=true:=by simp;omega
 have hz2:(IntKind.u64.wrap (x - 1) == IntKind.u64.wrap (f.off+f.ln))=false:=by rw[wrap_u64 (x - 1),show (x - 1) % 18446744073709551616=x - 1 from by omega];simp only[beq_eq_false_iff_ne,ne_eq];exact hq
 clear hq hp
 clear hc hm hmf hj hf
 go_enter Tryz.func106,Tryz.ntmps106
 go_wp2_with fail
 first
 | (go_ret;exact⟨rfl,by go_grown⟩)
 | (go_region;all_goals (go_wp2_with fail;go_ret;exact⟨rfl,by go_grown⟩))
theorem xm3 (v:Value) (l:List En) (c k:Nat) (x:Int) (w:World) (hv:xaj w v l) (hm:xas l) (hc:c<4) (hk:k<l.length) (x0:0≤x) (x1:x≤18446744073709551615) :
  Calls Tryz.prog 106 #[v,.int .i64 (c:Int),.int .i64 (k:Int),.int .u64 x] w fun e w'=>e=.returned (.int .i64 (xbo l c k x))∧Below w.heap.size w w':=by
 rcases(show c=0∨c=1∨c=2∨c=3 by omega) with rfl|rfl|rfl|rfl
 ·by_cases hz:k=0
  ·subst hz
   rw[show xbo l 0 0 x=0 from by unfold xbo;rw[if_neg (by omega),if_neg (by omega),if_neg (by omega),if_neg (by omega)]]
   exact xzj v l x w hv hm x0 x1
  ·obtain⟨j,hj⟩:∃ j:Nat,k=j+1:=⟨k - 1,by omega⟩
   obtain⟨f,hf⟩:∃ t,l[j]?=some t:=⟨_,List.getElem?_eq_getElem (by omega)⟩
   have hg:gE l (k - 1)=f:=by rw[hj,Nat.add_sub_cancel];exact xpl hf
   by_cases hq:18446744073709551616≤f.id+x
   ·rw[show xbo l 0 k x=11 from by unfold xbo;rw[if_pos ⟨rfl,by omega,by rw[hg];exact hq⟩]]
    exact xy1 v l k j f x w hv hm x0 x1 hj hk hf hq
   ·rw[show xbo l 0 k x=0 from by unfold xbo;rw[hg,if_neg (by omega),if_neg (by omega),if_neg (by omega),if_neg (by omega)]]
    exact xy9 v l k j f x w hv hm x0 x1 hj hk hf hq
 ·by_cases hq:4294967295<x
  ·rw[show xbo l 1 k x=11 from by unfold xbo;rw[if_neg (by omega),if_pos ⟨.inl rfl,hq⟩]]
   exact xy6 v l x w hv hm x0 x1 k hq
  ·rw[show xbo l 1 k x=0 from by unfold xbo;rw[if_neg (by omega),if_neg (by omega),if_neg (by omega),if_neg (by omega)]]
   exact xy2 v l x w hv hm x0 x1 k hq
 ·by_cases hq:4294967295<x
  ·rw[show xbo l 2 k x=11 from by unfold xbo;rw[if_neg (by omega),if_pos ⟨.inr rfl,hq⟩]]
   exact xze v l x w hv hm x0 x1 k hq
  ·rw[show xbo l 2 k x=0 from by unfold xbo;rw[if_neg (by omega),if_neg (by omega),if_neg (by omega),if_neg (by omega)]]
   exact xy8 v l x w hv hm x0 x1 k hq
 ·by_cases hz:k=0
  ·subst hz
   by_cases hq:x=0
   ·rw[show xbo l 3 0 x=4 from by unfold xbo;rw[if_neg (by omega),if_neg (by omega),if_pos ⟨rfl,rfl,hq⟩]]
    exact xyP v l x w hv hm x0 x1 hq
   ·rw[show xbo l 3 0 x=0 from by unfold xbo;rw[if_neg (by omega),if_neg (by omega),if_neg (by omega),if_neg (by omega)]]
    exact xy5 v l x w hv hm x0 x1 hq
  ·obtain⟨j,hj⟩:∃ j:Nat,k=j+1:=⟨k - 1,by omega⟩
   obtain⟨f,hf⟩:∃ t,l[j]?=some t:=⟨_,List.getElem?_eq_getElem (by omega)⟩
   have hg:nxE l (k - 1)=IntKind.u64.wrap (f.off+f.ln):=by rw[hj,Nat.add_sub_cancel,nxE,xpl hf,wrap_u64]
   by_cases hp:x=0
   ·rw[show xbo l 3 k x=0 from by unfold xbo;rw[if_neg (by omega),if_neg (by omega),if_neg (by omega),if_neg (by omega)]]
    exact xwV v l k j f x w hv hm x0 x1 hj hk hf hp
   ·by_cases hq:x - 1=IntKind.u64.wrap (f.off+f.ln)
    ·rw[show xbo l 3 k x=4 from by unfold xbo;rw[if_neg (by omega),if_neg (by omega),if_neg (by omega),if_pos ⟨rfl,by omega,by omega,by rw[hg];exact hq⟩]]
     exact xzn v l k j f x w hv hm x0 x1 hj hk hf (by omega) hq
    ·rw[show xbo l 3 k x=0 from by unfold xbo;rw[if_neg (by omega),if_neg (by omega),if_neg (by omega),if_neg (by rintro⟨-,-,-,h⟩;rw[hg] at h;exact hq h)]]
     exact xzw v l k j f x w hv hm x0 x1 hj hk hf (by omega) hq
end Go.Proofs.YtjinnigjfopbcaaGreatDoor
