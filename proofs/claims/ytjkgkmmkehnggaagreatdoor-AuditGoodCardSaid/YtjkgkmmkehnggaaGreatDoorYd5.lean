/- dPr dPu dPv dPw. -/
import Derived.Test.YtjkgkmmkehnggaaGreatDoorYs
import Derived.Test.YtjkgkmmkehnggaaGreatDoorYd4
namespace Go.Proofs.YtjkgkmmkehnggaaGreatDoor
set_option linter.unusedVariables false
set_option linter.unusedSimpArgs false
open Go.RowKit
set_option maxRecDepth 20000
set_option maxHeartbeats 4000000
def xbA (F d:Nat) (ob:Bool) (b:Int) (t:List Int):Jl × Nat × Int :=
 if 4<d then (.nil,0,20) else if xbK (t.drop (xab t))=b+2 then (.nil,xab t+2,0) else
 ((xax F d ob (b+2) [] 0 (t.drop (xab t))).1,xab t+1+(xax F d ob (b+2) [] 0 (t.drop (xab t))).2.1,(xax F d ob (b+2) [] 0 (t.drop (xab t))).2.2)
def xdo (R:Jl × Nat × Int) (l:List Int) (p:Nat) (I:Its→World→Prop) (e:Ending) (W':World):Prop :=
 ∃ vs k,e=.returned (.tuple #[.int .i64 ((p+k:Nat):Int),.int .i64 R.2.2])∧I vs W'∧(R.2.2=0→xfL vs .nil=R.1∧BEq l R.2.1 k)∧(R.2.2≠0→k=R.2.1)
def xsb (R:Jl × Nat × Int) (f d:Nat) (ob:Bool) (fin:Int) (vs:Its) (l:List Int) (p q:Nat):Prop :=
 R.2.2=(xax f d ob fin (vs.map (·.1)) vs.length l).2.2∧p+R.2.1=q+(xax f d ob fin (vs.map (·.1)) vs.length l).2.1∧(R.2.2=0→R.1=xfL vs (xax f d ob fin (vs.map (·.1)) vs.length l).1)
theorem xgg (fin:Int) (l:List Int) (h:fin≠-1):([fin] <+: l)↔xbK l=fin:=by
 cases l with
 | nil=>simp[xbK];omega
 | cons b t =>
  rw[List.cons_prefix_cons]
  simp only[List.nil_prefix,and_true]
  exact eq_comm
theorem xyd (fin:Int) (l:List Int) (n k:Nat) (h:BEq l n k):xcR [44,fin] (l.drop k)=match l.drop (n+xab (l.drop n)) with
  | []=>(0,n+xab (l.drop n) - k,3)
  | c :: t=>if c=44∨c=fin then (c,n+xab (l.drop n) - k+1+xab t,0) else (0,n+xab (l.drop n) - k,4):=by
 obtain⟨h1,h2,h3⟩:=h
 unfold xcR
 rw[List.drop_drop,h3,show xab (l.drop k)=n+xab (l.drop n) - k by omega]
 cases l.drop (n+xab (l.drop n)) with
 | nil=>rfl
 | cons c t=>simp only[List.mem_cons,List.not_mem_nil,or_false]
theorem xgD:∀ l:List Int,xab (l.drop (xab l))=0
 | []=>rfl
 | b :: t=>by
  rw[xab]
  by_cases h:isB b
  ·rw[if_pos h,List.drop_succ_cons];exact xgD t
  ·rw[if_neg h,List.drop_zero,xab,if_neg h]
theorem xfd {R:Jl × Nat × Int} {f d:Nat} {ob:Bool} {fin:Int} {vs:Its} {l:List Int} {p q:Nat} {nv:List Int × Js} {n k:Nat} (h:xsb R (f+1) d ob fin vs l p q) (hk:¬ (l≠[]∧64≤vs.length))
  (h1:xdY f d ob (vs.map (·.1)) l=(nv,n,0)) (hb:BEq l n k) (hf:fin≠44) (hf2:0≤fin) :
  let S:=xcR [44,fin] (l.drop k)
  (S.1=44→S.2.2=0∧l.drop (k+S.2.1)=l.drop (k+S.2.1)∧xsb R f d ob fin (vs++[nv]) (l.drop (k+S.2.1)) p (q+(k+S.2.1))) ∧
  (S.1≠44→R.2.2=S.2.2∧(S.2.2≠0→p+R.2.1=q+(k+S.2.1))∧(S.2.2=0→R.1=xfL (vs++[nv]) .nil∧∃ m,p+R.2.1=q+m∧BEq l m (k+S.2.1))):=by
 obtain⟨a1,a2,a3⟩:=h
 rw[xef,if_neg hk,h1] at a1 a2 a3
 simp only[ne_eq,not_true_eq_false,if_false] at a1 a2 a3
 obtain⟨m,hm⟩:∃ m,n+xab (l.drop n)=m:=⟨_,rfl⟩
 have hs:=xyd fin l n k hb
 obtain⟨b1,b2,b3⟩:=hb
 rw[hm] at hs a1 a2 a3
 have hkm:k≤m:=by omega
 have hml:m≤l.length:=by
  have:=xb5 (l.drop n)
  rw[List.length_drop] at this
  omega
 intro S
 have hS:S=xcR [44,fin] (l.drop k):=rfl
 rw[hs] at hS
 unfold xtr at a1 a2 a3
 cases hd:l.drop m with
 | nil =>
  rw[hd] at hS a1 a2 a3
  simp only at hS
  rw[if_pos rfl] at a1 a2 a3
  rw[hS]
  refine⟨fun e=>by simp at e,fun _=>⟨a1,fun _=>by rw[a2];simp only;omega,fun e=>by simp at e⟩⟩
 | cons c t =>
  have hdt:l.drop (m+1)=t:=by rw[← List.drop_drop,hd];rfl
  have hlm:m<l.length:=by
   rcases Nat.lt_or_ge m l.length with h|h
   ·exact h
   ·rw[List.drop_of_length_le h] at hd;cases hd
  have htl:t.length=l.length - m - 1:=by rw[← hdt,List.length_drop];omega
  rw[hd] at hS a1 a2 a3
  simp only at hS
  have h0:xbK (c :: t)=c:=rfl
  rw[if_neg (by simp),h0,hdt] at a1 a2 a3
  by_cases hc:c=fin
  ·rw[if_pos (.inr hc)] at hS
   rw[if_pos hc] at a1 a2 a3
   rw[hS]
   refine⟨fun e=>absurd (hc.symm.trans e) hf,fun _=>⟨a1,fun e=>absurd rfl e,fun _=>⟨by rw[a3 a1,xhb],m+1,a2,?_⟩⟩⟩
   have:=xb5 t
   refine⟨by simp only;omega,by simp only;omega,?_⟩
   simp only
   rw[show k+(m - k+1+xab t)=m+1+xab t by omega,← List.drop_drop,hdt]
   have:xab (t.drop (xab t))=0:=xgD t
   omega
  rw[if_neg hc] at a1 a2 a3
  by_cases h44:c=44
  ·rw[if_pos (.inl h44)] at hS
   rw[if_neg (by simp[h44])] at a1 a2 a3
   rw[hS]
   have hq:k+(m - k+1+xab t)=m+1+xab t:=by omega
   refine⟨fun _=>⟨rfl,rfl,?_⟩,fun e=>absurd h44 e⟩
   simp only
   rw[hq]
   unfold xsb
   rw[List.map_append,List.length_append]
   obtain⟨n0,v0⟩:=nv
   show _=(xax f d ob fin (vs.map (·.1)++[n0]) (vs.length+1) (l.drop (m+1+xab t))).2.2∧_=_+(xax f d ob fin (vs.map (·.1)++[n0]) (vs.length+1) (l.drop (m+1+xab t))).2.1∧(_→_=xfL _ (xax f d ob fin (vs.map (·.1)++[n0]) (vs.length+1) (l.drop (m+1+xab t))).1)
   simp only at a1 a2 a3
   generalize xax f d ob fin (vs.map (·.1)++[n0]) (vs.length+1) (l.drop (m+1+xab t))=T at a1 a2 a3 ⊢
   by_cases hT:T.2.2≠0
   ·rw[if_pos hT] at a1 a2 a3
    refine⟨a1,by rw[a2];simp only;omega,fun e=>absurd (a1.symm.trans e) hT⟩
   ·rw[if_neg hT] at a1 a2 a3
    have hT:=Decidable.not_not.1 hT
    refine⟨by rw[hT];exact a1,by rw[a2];simp only;omega,fun e=>by rw[a3 e,xhb]⟩
  ·rw[if_neg (by omega)] at hS
   rw[if_pos h44] at a1 a2 a3
   rw[hS]
   refine⟨fun e=>by simp at e,fun _=>⟨a1,fun _=>by rw[a2];simp only;omega,fun e=>by simp at e⟩⟩
theorem xf4 {R:Jl × Nat × Int} {f d:Nat} {ob:Bool} {fin:Int} {vs:Its} {l:List Int} {p q:Nat} (h:xsb R (f+1) d ob fin vs l p q) (hk:¬ (l≠[]∧64≤vs.length))
  (h1:(xdY f d ob (vs.map (·.1)) l).2.2≠0):R.2.2=(xdY f d ob (vs.map (·.1)) l).2.2∧p+R.2.1=q+(xdY f d ob (vs.map (·.1)) l).2.1:=by
 obtain⟨a1,a2,a3⟩:=h
 rw[xef,if_neg hk,if_pos h1] at a1 a2
 exact⟨a1,a2⟩
theorem xku {R:Jl × Nat × Int} {f d:Nat} {ob:Bool} {fin:Int} {vs:Its} {l:List Int} {p q:Nat} (h:xsb R (f+1) d ob fin vs l p q) (hk:l≠[]∧64≤vs.length):R.2.2=21∧p+R.2.1=q:=by
 obtain⟨a1,a2,a3⟩:=h
 rw[xef,if_pos hk] at a1 a2
 exact⟨a1,a2⟩
theorem xdo.fin {R:Jl × Nat × Int} {p q k:Nat} {I:Its→World→Prop} {vs:Its} {nv:List Int × Js} {T:Int × Nat × Int} {W:World} {s:ByteArray} (hpq:p≤q) (hqs:q≤s.size)
  (h:R.2.2=T.2.2∧(T.2.2≠0→p+R.2.1=q+(k+T.2.1))∧(T.2.2=0→R.1=xfL (vs++[nv]) .nil∧∃ m,p+R.2.1=q+m∧BEq ((bI s).drop q) m (k+T.2.1))) (hI:I (vs++[nv]) W) :
  ∃ vs' k',Ending.returned (.tuple #[.int .i64 ((q+k+T.2.1:Nat):Int),.int .i64 T.2.2])=.returned (.tuple #[.int .i64 ((p+k':Nat):Int),.int .i64 R.2.2])∧I vs' W∧(R.2.2=0→xfL vs' .nil=R.1∧BEq ((bI s).drop p) R.2.1 k')∧(R.2.2≠0→k'=R.2.1):=by
 obtain⟨h1,h2,h3⟩:=h
 refine⟨vs++[nv],q - p+(k+T.2.1),by rw[h1,show p+(q - p+(k+T.2.1))=q+k+T.2.1 by omega],hI,fun e=>?_,fun e=>?_⟩
 ·obtain⟨g1,m,g2,g3⟩:=h3 (h1 ▸ e)
  refine⟨g1.symm,?_⟩
  have hd:(bI s).drop q=((bI s).drop p).drop (q - p):=by rw[List.drop_drop,show p+(q - p)=q by omega]
  rw[hd] at g3
  rw[show R.2.1=q - p+m by omega]
  exact BEq.add g3 (by rw[List.length_drop,xaj];omega)
 ·have:=h2 (h1 ▸ e)
  omega
theorem xiV (f d:Nat) (ob:Bool) (names:List (List Int)) (l:List Int) (h:(xdY f d ob names l).2.2=0):1≤(xdY f d ob names l).2.1:=by
 unfold xdY at h ⊢
 split at h
 ·rename_i h2;exact absurd h h2
 ·rename_i h2
  rw[if_neg h2]
  have:=((xxu f).1 (d+1) (l.drop (xbh ob names l).2.1)).2 h
  simp only
  omega
theorem xhB (s:ByteArray) (p d:Nat) (w:World) (fin:ByteArray) (c:Value) (hd:4<d) :
  Calls Tryz.prog 239 #[.string s,.int .i64 p,.int .i64 d,.string fin,c] w fun e w'=>e=.returned (.tuple #[.int .i64 (p:Int),.int .i64 20])∧w'=w:=by
 have e1:decide (4<(d:Int))=true:=by simp;omega
 go_enter Tryz.func239,Tryz.ntmps239
 go_wp2_with fail
 refine bodyPost_ret (v:=.tuple #[.int .i64 (p:Int),.int .i64 20]) (by simp[results,Tryz.results239,go_sem]) rfl ⟨rfl,rfl⟩
theorem xoH (F:Nat) (s:ByteArray) (p d:Nat) (w:World) (I:Its→World→Prop) (b1 b2 b3:Nat) (hIb:∀ vs W W',I vs W→Below W.heap.size W W'→I vs W')
  (HC:∀ g vs q W,2*(s.size - q)+1≤g→vs.length≤64→p<q→I vs W→q≤s.size→Calls Tryz.prog 240 #[.int .i64 q,.pointer (some ⟨b1,0,none⟩),.pointer (some ⟨b2,0,none⟩),.pointer (some ⟨b3,0,none⟩)] W (xlV (xdY g d false (vs.map (·.1)) ((bI s).drop q)) ((bI s).drop q) q I vs))
  (b:Int) (t:List Int) (hp:(bI s).drop p=b :: t) (hs:s.size≤5000) (hF:2*(s.size - p)≤F) (hI:I [] w) (hb:b+2=93) :
  Calls Tryz.prog 239 #[.string s,.int .i64 p,.int .i64 d,.string { data:=#[93] },.func (.func 240) #[] #[.pointer (some ⟨b1,0,none⟩),.pointer (some ⟨b2,0,none⟩),.pointer (some ⟨b3,0,none⟩)]] w fun e w'=>xdo (xbA F d false b t) ((bI s).drop p) p I e w':=by
 have hlt:p<s.size:=by
  rcases Nat.lt_or_ge p s.size with h|h
  ·exact h
  ·rw[List.drop_of_length_le (by rw[xaj];omega)] at hp;cases hp
 have hdt:(bI s).drop (p+1)=t:=by rw[← List.drop_drop,hp];rfl
 have htl:t.length=s.size - p - 1:=by rw[← hdt,List.length_drop,xaj];omega
 have hbl:=xb5 t
 have hll:((bI s).drop p).length=s.size - p:=by rw[List.length_drop,xaj]
 have hpd:∀ m,(bI s).drop (p+m)=((bI s).drop p).drop m:=fun m=>by rw[List.drop_drop]
 obtain⟨R,hR⟩:∃ R,xbA F d false b t=R:=⟨_,rfl⟩
 rw[hR]
 unfold xbA at hR
 have HI:=lH hI
 have HC:=lH HC
 have HIB:=lH hIb
 unfold xdo
 clear hI hIb
 by_cases hd:4<d
 ·rw[if_pos hd] at hR
  subst hR
  have e1:decide (4<(d:Int))=true:=by simp;omega
  clear hp hdt hpd
  go_enter Tryz.func239,Tryz.ntmps239
  go_wp2_with fail
  refine bodyPost_ret (v:=.tuple #[.int .i64 (p:Int),.int .i64 20]) (by simp[results,Tryz.results239,go_sem]) rfl ⟨[],0,rfl,HI.out,fun e=>by simp at e,fun _=>rfl⟩
 rw[if_neg hd] at hR
 have e1:decide (4<(d:Int))=false:=by simp;omega
 have HP:=lH (fun W=>xdI s (p+1) W (by omega) (by omega))
 rw[hdt] at HP
 obtain⟨q0,hq0⟩:∃ q0,p+1+xab t=q0:=⟨_,rfl⟩
 rw[hq0] at HP
 have hd0:(bI s).drop q0=t.drop (xab t):=by rw[← hdt,List.drop_drop,hdt,hq0]
 have HX:=lH (fun W=>xgl (s.extract q0 s.size) { data:=#[93] } W)
 have hfin:bI { data:=#[93] }=[93]:=rfl
 rw[xvi s q0 (by omega),hfin,hd0] at HX
 have hw1:IntKind.i64.wrap ((p:Int)+1)=((p+1:Nat):Int):=by rw[IntKind.wrap_i64] <;> omega
 have n1:(q0:Int)≤(s.size:Int):=by omega
 by_cases hh:xbK (t.drop (xab t))=b+2
 ·rw[if_pos hh] at hR
  subst hR
  have hpr:[93] <+: t.drop (xab t):=(xgg 93 _ (by omega)).2 (by rw[hh,hb])
  rw[decide_eq_true hpr] at HX
  have hq1:q0<s.size:=by
   rcases Nat.lt_or_ge q0 s.size with h|h
   ·exact h
   ·rw[← hd0,List.drop_of_length_le (by rw[xaj];omega)] at hh;simp[xbK] at hh;omega
  have hw2:IntKind.i64.wrap ((q0:Int)+1)=((q0+1:Nat):Int):=by rw[IntKind.wrap_i64] <;> omega
  have HQ:=lH (show q0+1=p+(xab t+2) by omega)
  have HLL:=lH hll
  clear hp hdt hpd hd0 hpr hh hd hll
  go_enter Tryz.func239,Tryz.ntmps239
  go_wp2_with fail
  refine(HP.out _).mono ?_
  rintro e w1 ⟨rfl,hb1⟩
  have HI1:=lH (HIB.out _ _ _ HI.out hb1)
  clear hb1
  go_wp2_with fail
  refine(HX.out _).mono ?_
  rintro e w2 ⟨rfl,rfl⟩
  go_wp2_with fail
  refine bodyPost_ret (v:=.tuple #[.int .i64 ((q0+1:Nat):Int),.int .i64 0]) (by simp[results,Tryz.results239,go_sem]) rfl ⟨[],xab t+2,by rw[HQ.out],HI1.out,fun _=>⟨rfl,BEq.same (by show xab t+2≤_;rw[HLL.out];omega)⟩,fun e=>absurd rfl e⟩
 rw[if_neg hh] at hR
 have hpr:¬ [93] <+: t.drop (xab t):=fun x=>hh (by rw[hb];exact(xgg 93 _ (by omega)).1 x)
 rw[decide_eq_false hpr] at HX
 have hprom:xsb R F d false 93 [] ((bI s).drop q0) p q0:=by
  rw[hb] at hR
  unfold xsb
  rw[hd0,← hR]
  refine⟨rfl,by simp only[List.map_nil,List.length_nil];omega,fun _=>rfl⟩
 have HPR:=lH hprom
 have HPD:=lH hpd
 have HLL:=lH hll
 have h44:bI ({ data:=#[44,93] }:ByteArray)=[44,93]:=rfl
 clear hp hdt hpd hd0 hpr hh hd hR hprom hll htl hbl
 go_enter Tryz.func239,Tryz.ntmps239
 go_wp2_with fail
 refine(HP.out _).mono ?_
 rintro e w1 ⟨rfl,hb1⟩
 have HI1:=lH (HIB.out _ _ _ HI.out hb1)
 clear hb1
 go_wp2_with fail
 refine(HX.out _).mono ?_
 rintro e w2 ⟨rfl,rfl⟩
 go_wp2_with fail
 go_loopw [1,12] (fun z1 z2 wr=>∃ (q f:Nat) (vs:Its),z1=.int .i64 q∧z2=.int .i64 vs.length∧p<q∧q≤s.size∧vs.length≤64∧2*(s.size - q)+2≤f∧Hid (I vs wr)∧Hid (xsb R f d false 93 vs ((bI s).drop q) p q)) (fun z1 _ _=>s.size - (intOf z1).toNat)
 case atStart=>exact⟨q0,F,[],rfl,rfl,by omega,by omega,by simp,by omega,HI1,HPR⟩
 case round =>
  obtain⟨q,f,vs,rfl,rfl,hpq,hq,hv64,hf,HIV,HPM⟩:=hrel
  obtain⟨g,rfl⟩:∃ g,f=g+1:=⟨f - 1,by omega⟩
  by_cases hm:vs.length=64∧q<s.size
  ·have em:((vs.length:Int) == 64)=true:=by simp;omega
   have e2:(q:Int)<(s.size:Int):=by omega
   have hne:(bI s).drop q≠[]:=fun e=>by
    have:=congrArg List.length e
    rw[List.length_drop,xaj] at this
    simp at this;omega
   have hpm:=lH (xku HPM.out ⟨hne,by omega⟩)
   clear hne hm
   go_wp2_with fail
   refine bodyPost_ret (v:=.tuple #[.int .i64 (q:Int),.int .i64 21]) (by simp[results,Tryz.results239,go_sem]) rfl ⟨vs,R.2.1,by rw[hpm.out.1,hpm.out.2],HIV.out,fun(e:R.2.2=0)=>absurd (hpm.out.1.symm.trans e) (by decide),fun _=>rfl⟩
  have hk:¬ ((bI s).drop q≠[]∧64≤vs.length):=by
   rintro⟨h1,h2⟩
   refine hm ⟨by omega,?_⟩
   rcases Nat.lt_or_ge q s.size with h|h
   ·exact h
   ·exact absurd (List.drop_of_length_le (by rw[xaj];omega)) h1
  by_cases h64:vs.length=64
  ·have em:((vs.length:Int) == 64)=true:=by simp;omega
   have e2:¬ (q:Int)<(s.size:Int):=by omega
   have HCC:=lH (HC.out g vs q wr (by omega) hv64 hpq HIV.out hq)
   have hpos:=xiV g d false (vs.map (·.1)) ((bI s).drop q)
   have hbad:=xf4 HPM.out hk
   have hgood:=fun nv n k (h1:xdY g d false (vs.map (·.1)) ((bI s).drop q)=(nv,n,0)) (hb:BEq ((bI s).drop q) n k)=>xfd HPM.out hk h1 hb (by omega) (by omega)
   have hlq:((bI s).drop q).length=s.size - q:=by rw[List.length_drop,xaj]
   rcases hone:xdY g d false (vs.map (·.1)) ((bI s).drop q) with ⟨nv,n,e1⟩
   rw[hone] at HCC hpos hbad
   have HG:=lH (hgood nv n)
   rw[hone] at HG
   have HBAD:=lH hbad
   have HPOS:=lH hpos
   have HLQ:=lH hlq
   have HNM:=lH hm
   unfold xlV at HCC
   clear hgood hbad hpos hone hlq hk hm
   go_wp2_with fail
   refine HCC.out.mono ?_
   rintro e wa ⟨vs',k,rfl,hI',h0,h1⟩
   have HIA:=lH hI'
   have H0:=lH h0
   have H1:=lH h1
   clear hI' h0 h1 HCC
   by_cases he1:e1≠0
   ·have hde:(e1 != 0)=true:=by simpa using he1
    have hfin:=HBAD.out he1
    have hkn:=H1.out he1
    try simp only at hfin hkn
    subst hkn
    have HFI:=lH hfin
    have HE1:=lH he1
    clear hfin he1
    go_wp2_with fail
    refine bodyPost_ret (v:=.tuple #[.int .i64 ((q+k:Nat):Int),.int .i64 e1]) (by simp[results,Tryz.results239,go_sem]) rfl ⟨vs',R.2.1,by rw[HFI.out.1,HFI.out.2],HIA.out,fun e=>absurd (HFI.out.1.symm.trans e) HE1.out,fun _=>rfl⟩
   have he1:=Decidable.not_not.1 he1
   subst he1
   obtain⟨rfl,hbeq⟩:=H0.out rfl
   have hn1:=HPOS.out rfl
   try simp only at hbeq hn1
   have HST:=lH (HG.out k rfl hbeq)
   have hkl:n≤k∧k≤s.size - q:=⟨hbeq.1,by rw[← HLQ.out];exact hbeq.2.1⟩
   have hv63:vs.length<64:=by
    rcases Nat.lt_or_ge vs.length 64 with h|h
    ·exact h
    ·exact absurd (⟨by omega,by omega⟩:vs.length=64∧q<s.size) HNM.out
   have HSG:=lH (fun W=>xeE s { data:=#[44,93] } (q+k) W (by omega) (by omega))
   rw[h44,show (bI s).drop (q+k)=((bI s).drop q).drop k by rw[List.drop_drop]] at HSG
   have hsl:=xgt [44,93] (((bI s).drop q).drop k)
   rw[List.length_drop,HLQ.out] at hsl
   generalize xcR [44,93] (((bI s).drop q).drop k)=T at HSG HST hsl
   unfold xlz at HSG
   clear H0 H1 HG HBAD HPOS hbeq
   go_wp2_with fail
   refine(HSG.out _).mono ?_
   rintro e wb ⟨rfl,hb2⟩
   have HIB2:=lH (HIB.out _ _ _ HIA.out hb2)
   clear hb2
   by_cases h4:T.1=44
   ·have hd4:(T.1 != 44)=false:=by simpa using h4
    have hst:=HST.out.1 h4
    have HPM2:=lH hst.2.2
    clear hst h4
    go_wp2_with fail
    go_roundw
    case rel=>exact⟨q+k+T.2.1,g,vs++[nv],rfl,by rw[List.length_append];go_num,by omega,by omega,by rw[List.length_append];simp only[List.length_singleton];omega,by omega,HIB2,lH (by
      have:=HPM2.out
      rwa[List.drop_drop,← Nat.add_assoc] at this)⟩
    case measure=>simp[intOf];omega
   ·have hd4:(T.1 != 44)=true:=by simpa using h4
    have hst:=HST.out.2 h4
    have HPM2:=lH hst
    clear hst h4
    go_wp2_with fail
    refine bodyPost_ret (v:=.tuple #[.int .i64 ((q+k+T.2.1:Nat):Int),.int .i64 T.2.2]) (by simp[results,Tryz.results239,go_sem]) rfl (xdo.fin (Nat.le_of_lt hpq) hq HPM2.out HIB2.out)
  ·have em:((vs.length:Int) == 64)=false:=by rw[beq_eq_false_iff_ne];omega
   have HCC:=lH (HC.out g vs q wr (by omega) hv64 hpq HIV.out hq)
   have hpos:=xiV g d false (vs.map (·.1)) ((bI s).drop q)
   have hbad:=xf4 HPM.out hk
   have hgood:=fun nv n k (h1:xdY g d false (vs.map (·.1)) ((bI s).drop q)=(nv,n,0)) (hb:BEq ((bI s).drop q) n k)=>xfd HPM.out hk h1 hb (by omega) (by omega)
   have hlq:((bI s).drop q).length=s.size - q:=by rw[List.length_drop,xaj]
   rcases hone:xdY g d false (vs.map (·.1)) ((bI s).drop q) with ⟨nv,n,e1⟩
   rw[hone] at HCC hpos hbad
   have HG:=lH (hgood nv n)
   rw[hone] at HG
   have HBAD:=lH hbad
   have HPOS:=lH hpos
   have HLQ:=lH hlq
   have HNM:=lH hm
   unfold xlV at HCC
   clear hgood hbad hpos hone hlq hk hm
   go_wp2_with fail
   refine HCC.out.mono ?_
   rintro e wa ⟨vs',k,rfl,hI',h0,h1⟩
   have HIA:=lH hI'
   have H0:=lH h0
   have H1:=lH h1
   clear hI' h0 h1 HCC
   by_cases he1:e1≠0
   ·have hde:(e1 != 0)=true:=by simpa using he1
    have hfin:=HBAD.out he1
    have hkn:=H1.out he1
    try simp only at hfin hkn
    subst hkn
    have HFI:=lH hfin
    have HE1:=lH he1
    clear hfin he1
    go_wp2_with fail
    refine bodyPost_ret (v:=.tuple #[.int .i64 ((q+k:Nat):Int),.int .i64 e1]) (by simp[results,Tryz.results239,go_sem]) rfl ⟨vs',R.2.1,by rw[HFI.out.1,HFI.out.2],HIA.out,fun e=>absurd (HFI.out.1.symm.trans e) HE1.out,fun _=>rfl⟩
   have he1:=Decidable.not_not.1 he1
   subst he1
   obtain⟨rfl,hbeq⟩:=H0.out rfl
   have hn1:=HPOS.out rfl
   try simp only at hbeq hn1
   have HST:=lH (HG.out k rfl hbeq)
   have hkl:n≤k∧k≤s.size - q:=⟨hbeq.1,by rw[← HLQ.out];exact hbeq.2.1⟩
   have hv63:vs.length<64:=by
    rcases Nat.lt_or_ge vs.length 64 with h|h
    ·exact h
    ·exact absurd (⟨by omega,by omega⟩:vs.length=64∧q<s.size) HNM.out
   have HSG:=lH (fun W=>xeE s { data:=#[44,93] } (q+k) W (by omega) (by omega))
   rw[h44,show (bI s).drop (q+k)=((bI s).drop q).drop k by rw[List.drop_drop]] at HSG
   have hsl:=xgt [44,93] (((bI s).drop q).drop k)
   rw[List.length_drop,HLQ.out] at hsl
   generalize xcR [44,93] (((bI s).drop q).drop k)=T at HSG HST hsl
   unfold xlz at HSG
   clear H0 H1 HG HBAD HPOS hbeq
   go_wp2_with fail
   refine(HSG.out _).mono ?_
   rintro e wb ⟨rfl,hb2⟩
   have HIB2:=lH (HIB.out _ _ _ HIA.out hb2)
   clear hb2
   by_cases h4:T.1=44
   ·have hd4:(T.1 != 44)=false:=by simpa using h4
    have hst:=HST.out.1 h4
    have HPM2:=lH hst.2.2
    clear hst h4
    go_wp2_with fail
    go_roundw
    case rel=>exact⟨q+k+T.2.1,g,vs++[nv],rfl,by rw[List.length_append];go_num,by omega,by omega,by rw[List.length_append];simp only[List.length_singleton];omega,by omega,HIB2,lH (by
      have:=HPM2.out
      rwa[List.drop_drop,← Nat.add_assoc] at this)⟩
    case measure=>simp[intOf];omega
   ·have hd4:(T.1 != 44)=true:=by simpa using h4
    have hst:=HST.out.2 h4
    have HPM2:=lH hst
    clear hst h4
    go_wp2_with fail
    refine bodyPost_ret (v:=.tuple #[.int .i64 ((q+k+T.2.1:Nat):Int),.int .i64 T.2.2]) (by simp[results,Tryz.results239,go_sem]) rfl (xdo.fin (Nat.le_of_lt hpq) hq HPM2.out HIB2.out)
theorem xre (F:Nat) (s:ByteArray) (p d:Nat) (w:World) (I:Its→World→Prop) (b1 b2 b3:Nat) (hIb:∀ vs W W',I vs W→Below W.heap.size W W'→I vs W')
  (HC:∀ g vs q W,2*(s.size - q)+1≤g→vs.length≤64→p<q→I vs W→q≤s.size→Calls Tryz.prog 241 #[.int .i64 q,.pointer (some ⟨b1,0,none⟩),.pointer (some ⟨b2,0,none⟩),.pointer (some ⟨b3,0,none⟩)] W (xlV (xdY g d true (vs.map (·.1)) ((bI s).drop q)) ((bI s).drop q) q I vs))
  (b:Int) (t:List Int) (hp:(bI s).drop p=b :: t) (hs:s.size≤5000) (hF:2*(s.size - p)≤F) (hI:I [] w) (hb:b+2=125) :
  Calls Tryz.prog 239 #[.string s,.int .i64 p,.int .i64 d,.string { data:=#[125] },.func (.func 241) #[] #[.pointer (some ⟨b1,0,none⟩),.pointer (some ⟨b2,0,none⟩),.pointer (some ⟨b3,0,none⟩)]] w fun e w'=>xdo (xbA F d true b t) ((bI s).drop p) p I e w':=by
 have hlt:p<s.size:=by
  rcases Nat.lt_or_ge p s.size with h|h
  ·exact h
  ·rw[List.drop_of_length_le (by rw[xaj];omega)] at hp;cases hp
 have hdt:(bI s).drop (p+1)=t:=by rw[← List.drop_drop,hp];rfl
 have htl:t.length=s.size - p - 1:=by rw[← hdt,List.length_drop,xaj];omega
 have hbl:=xb5 t
 have hll:((bI s).drop p).length=s.size - p:=by rw[List.length_drop,xaj]
 have hpd:∀ m,(bI s).drop (p+m)=((bI s).drop p).drop m:=fun m=>by rw[List.drop_drop]
 obtain⟨R,hR⟩:∃ R,xbA F d true b t=R:=⟨_,rfl⟩
 rw[hR]
 unfold xbA at hR
 have HI:=lH hI
 have HC:=lH HC
 have HIB:=lH hIb
 unfold xdo
 clear hI hIb
 by_cases hd:4<d
 ·rw[if_pos hd] at hR
  subst hR
  have e1:decide (4<(d:Int))=true:=by simp;omega
  clear hp hdt hpd
  go_enter Tryz.func239,Tryz.ntmps239
  go_wp2_with fail
  refine bodyPost_ret (v:=.tuple #[.int .i64 (p:Int),.int .i64 20]) (by simp[results,Tryz.results239,go_sem]) rfl ⟨[],0,rfl,HI.out,fun e=>by simp at e,fun _=>rfl⟩
 rw[if_neg hd] at hR
 have e1:decide (4<(d:Int))=false:=by simp;omega
 have HP:=lH (fun W=>xdI s (p+1) W (by omega) (by omega))
 rw[hdt] at HP
 obtain⟨q0,hq0⟩:∃ q0,p+1+xab t=q0:=⟨_,rfl⟩
 rw[hq0] at HP
 have hd0:(bI s).drop q0=t.drop (xab t):=by rw[← hdt,List.drop_drop,hdt,hq0]
 have HX:=lH (fun W=>xgl (s.extract q0 s.size) { data:=#[125] } W)
 have hfin:bI { data:=#[125] }=[125]:=rfl
 rw[xvi s q0 (by omega),hfin,hd0] at HX
 have hw1:IntKind.i64.wrap ((p:Int)+1)=((p+1:Nat):Int):=by rw[IntKind.wrap_i64] <;> omega
 have n1:(q0:Int)≤(s.size:Int):=by omega
 by_cases hh:xbK (t.drop (xab t))=b+2
 ·rw[if_pos hh] at hR
  subst hR
  have hpr:[125] <+: t.drop (xab t):=(xgg 125 _ (by omega)).2 (by rw[hh,hb])
  rw[decide_eq_true hpr] at HX
  have hq1:q0<s.size:=by
   rcases Nat.lt_or_ge q0 s.size with h|h
   ·exact h
   ·rw[← hd0,List.drop_of_length_le (by rw[xaj];omega)] at hh;simp[xbK] at hh;omega
  have hw2:IntKind.i64.wrap ((q0:Int)+1)=((q0+1:Nat):Int):=by rw[IntKind.wrap_i64] <;> omega
  have HQ:=lH (show q0+1=p+(xab t+2) by omega)
  have HLL:=lH hll
  clear hp hdt hpd hd0 hpr hh hd hll
  go_enter Tryz.func239,Tryz.ntmps239
  go_wp2_with fail
  refine(HP.out _).mono ?_
  rintro e w1 ⟨rfl,hb1⟩
  have HI1:=lH (HIB.out _ _ _ HI.out hb1)
  clear hb1
  go_wp2_with fail
  refine(HX.out _).mono ?_
  rintro e w2 ⟨rfl,rfl⟩
  go_wp2_with fail
  refine bodyPost_ret (v:=.tuple #[.int .i64 ((q0+1:Nat):Int),.int .i64 0]) (by simp[results,Tryz.results239,go_sem]) rfl ⟨[],xab t+2,by rw[HQ.out],HI1.out,fun _=>⟨rfl,BEq.same (by show xab t+2≤_;rw[HLL.out];omega)⟩,fun e=>absurd rfl e⟩
 rw[if_neg hh] at hR
 have hpr:¬ [125] <+: t.drop (xab t):=fun x=>hh (by rw[hb];exact(xgg 125 _ (by omega)).1 x)
 rw[decide_eq_false hpr] at HX
 have hprom:xsb R F d true 125 [] ((bI s).drop q0) p q0:=by
  rw[hb] at hR
  unfold xsb
  rw[hd0,← hR]
  refine⟨rfl,by simp only[List.map_nil,List.length_nil];omega,fun _=>rfl⟩
 have HPR:=lH hprom
 have HPD:=lH hpd
 have HLL:=lH hll
 have h44:bI ({ data:=#[44,125] }:ByteArray)=[44,125]:=rfl
 clear hp hdt hpd hd0 hpr hh hd hR hprom hll htl hbl
 go_enter Tryz.func239,Tryz.ntmps239
 go_wp2_with fail
 refine(HP.out _).mono ?_
 rintro e w1 ⟨rfl,hb1⟩
 have HI1:=lH (HIB.out _ _ _ HI.out hb1)
 clear hb1
 go_wp2_with fail
 refine(HX.out _).mono ?_
 rintro e w2 ⟨rfl,rfl⟩
 go_wp2_with fail
 go_loopw [1,12] (fun z1 z2 wr=>∃ (q f:Nat) (vs:Its),z1=.int .i64 q∧z2=.int .i64 vs.length∧p<q∧q≤s.size∧vs.length≤64∧2*(s.size - q)+2≤f∧Hid (I vs wr)∧Hid (xsb R f d true 125 vs ((bI s).drop q) p q)) (fun z1 _ _=>s.size - (intOf z1).toNat)
 case atStart=>exact⟨q0,F,[],rfl,rfl,by omega,by omega,by simp,by omega,HI1,HPR⟩
 case round =>
  obtain⟨q,f,vs,rfl,rfl,hpq,hq,hv64,hf,HIV,HPM⟩:=hrel
  obtain⟨g,rfl⟩:∃ g,f=g+1:=⟨f - 1,by omega⟩
  by_cases hm:vs.length=64∧q<s.size
  ·have em:((vs.length:Int) == 64)=true:=by simp;omega
   have e2:(q:Int)<(s.size:Int):=by omega
   have hne:(bI s).drop q≠[]:=fun e=>by
    have:=congrArg List.length e
    rw[List.length_drop,xaj] at this
    simp at this;omega
   have hpm:=lH (xku HPM.out ⟨hne,by omega⟩)
   clear hne hm
   go_wp2_with fail
   refine bodyPost_ret (v:=.tuple #[.int .i64 (q:Int),.int .i64 21]) (by simp[results,Tryz.results239,go_sem]) rfl ⟨vs,R.2.1,by rw[hpm.out.1,hpm.out.2],HIV.out,fun(e:R.2.2=0)=>absurd (hpm.out.1.symm.trans e) (by decide),fun _=>rfl⟩
  have hk:¬ ((bI s).drop q≠[]∧64≤vs.length):=by
   rintro⟨h1,h2⟩
   refine hm ⟨by omega,?_⟩
   rcases Nat.lt_or_ge q s.size with h|h
   ·exact h
   ·exact absurd (List.drop_of_length_le (by rw[xaj];omega)) h1
  by_cases h64:vs.length=64
  ·have em:((vs.length:Int) == 64)=true:=by simp;omega
   have e2:¬ (q:Int)<(s.size:Int):=by omega
   have HCC:=lH (HC.out g vs q wr (by omega) hv64 hpq HIV.out hq)
   have hpos:=xiV g d true (vs.map (·.1)) ((bI s).drop q)
   have hbad:=xf4 HPM.out hk
   have hgood:=fun nv n k (h1:xdY g d true (vs.map (·.1)) ((bI s).drop q)=(nv,n,0)) (hb:BEq ((bI s).drop q) n k)=>xfd HPM.out hk h1 hb (by omega) (by omega)
   have hlq:((bI s).drop q).length=s.size - q:=by rw[List.length_drop,xaj]
   rcases hone:xdY g d true (vs.map (·.1)) ((bI s).drop q) with ⟨nv,n,e1⟩
   rw[hone] at HCC hpos hbad
   have HG:=lH (hgood nv n)
   rw[hone] at HG
   have HBAD:=lH hbad
   have HPOS:=lH hpos
   have HLQ:=lH hlq
   have HNM:=lH hm
   unfold xlV at HCC
   clear hgood hbad hpos hone hlq hk hm
   go_wp2_with fail
   refine HCC.out.mono ?_
   rintro e wa ⟨vs',k,rfl,hI',h0,h1⟩
   have HIA:=lH hI'
   have H0:=lH h0
   have H1:=lH h1
   clear hI' h0 h1 HCC
   by_cases he1:e1≠0
   ·have hde:(e1 != 0)=true:=by simpa using he1
    have hfin:=HBAD.out he1
    have hkn:=H1.out he1
    try simp only at hfin hkn
    subst hkn
    have HFI:=lH hfin
    have HE1:=lH he1
    clear hfin he1
    go_wp2_with fail
    refine bodyPost_ret (v:=.tuple #[.int .i64 ((q+k:Nat):Int),.int .i64 e1]) (by simp[results,Tryz.results239,go_sem]) rfl ⟨vs',R.2.1,by rw[HFI.out.1,HFI.out.2],HIA.out,fun e=>absurd (HFI.out.1.symm.trans e) HE1.out,fun _=>rfl⟩
   have he1:=Decidable.not_not.1 he1
   subst he1
   obtain⟨rfl,hbeq⟩:=H0.out rfl
   have hn1:=HPOS.out rfl
   try simp only at hbeq hn1
   have HST:=lH (HG.out k rfl hbeq)
   have hkl:n≤k∧k≤s.size - q:=⟨hbeq.1,by rw[← HLQ.out];exact hbeq.2.1⟩
   have hv63:vs.length<64:=by
    rcases Nat.lt_or_ge vs.length 64 with h|h
    ·exact h
    ·exact absurd (⟨by omega,by omega⟩:vs.length=64∧q<s.size) HNM.out
   have HSG:=lH (fun W=>xeE s { data:=#[44,125] } (q+k) W (by omega) (by omega))
   rw[h44,show (bI s).drop (q+k)=((bI s).drop q).drop k by rw[List.drop_drop]] at HSG
   have hsl:=xgt [44,125] (((bI s).drop q).drop k)
   rw[List.length_drop,HLQ.out] at hsl
   generalize xcR [44,125] (((bI s).drop q).drop k)=T at HSG HST hsl
   unfold xlz at HSG
   clear H0 H1 HG HBAD HPOS hbeq
   go_wp2_with fail
   refine(HSG.out _).mono ?_
   rintro e wb ⟨rfl,hb2⟩
   have HIB2:=lH (HIB.out _ _ _ HIA.out hb2)
   clear hb2
   by_cases h4:T.1=44
   ·have hd4:(T.1 != 44)=false:=by simpa using h4
    have hst:=HST.out.1 h4
    have HPM2:=lH hst.2.2
    clear hst h4
    go_wp2_with fail
    go_roundw
    case rel=>exact⟨q+k+T.2.1,g,vs++[nv],rfl,by rw[List.length_append];go_num,by omega,by omega,by rw[List.length_append];simp only[List.length_singleton];omega,by omega,HIB2,lH (by
      have:=HPM2.out
      rwa[List.drop_drop,← Nat.add_assoc] at this)⟩
    case measure=>simp[intOf];omega
   ·have hd4:(T.1 != 44)=true:=by simpa using h4
    have hst:=HST.out.2 h4
    have HPM2:=lH hst
    clear hst h4
    go_wp2_with fail
    refine bodyPost_ret (v:=.tuple #[.int .i64 ((q+k+T.2.1:Nat):Int),.int .i64 T.2.2]) (by simp[results,Tryz.results239,go_sem]) rfl (xdo.fin (Nat.le_of_lt hpq) hq HPM2.out HIB2.out)
  ·have em:((vs.length:Int) == 64)=false:=by rw[beq_eq_false_iff_ne];omega
   have HCC:=lH (HC.out g vs q wr (by omega) hv64 hpq HIV.out hq)
   have hpos:=xiV g d true (vs.map (·.1)) ((bI s).drop q)
   have hbad:=xf4 HPM.out hk
   have hgood:=fun nv n k (h1:xdY g d true (vs.map (·.1)) ((bI s).drop q)=(nv,n,0)) (hb:BEq ((bI s).drop q) n k)=>xfd HPM.out hk h1 hb (by omega) (by omega)
   have hlq:((bI s).drop q).length=s.size - q:=by rw[List.length_drop,xaj]
   rcases hone:xdY g d true (vs.map (·.1)) ((bI s).drop q) with ⟨nv,n,e1⟩
   rw[hone] at HCC hpos hbad
   have HG:=lH (hgood nv n)
   rw[hone] at HG
   have HBAD:=lH hbad
   have HPOS:=lH hpos
   have HLQ:=lH hlq
   have HNM:=lH hm
   unfold xlV at HCC
   clear hgood hbad hpos hone hlq hk hm
   go_wp2_with fail
   refine HCC.out.mono ?_
   rintro e wa ⟨vs',k,rfl,hI',h0,h1⟩
   have HIA:=lH hI'
   have H0:=lH h0
   have H1:=lH h1
   clear hI' h0 h1 HCC
   by_cases he1:e1≠0
   ·have hde:(e1 != 0)=true:=by simpa using he1
    have hfin:=HBAD.out he1
    have hkn:=H1.out he1
    try simp only at hfin hkn
    subst hkn
    have HFI:=lH hfin
    have HE1:=lH he1
    clear hfin he1
    go_wp2_with fail
    refine bodyPost_ret (v:=.tuple #[.int .i64 ((q+k:Nat):Int),.int .i64 e1]) (by simp[results,Tryz.results239,go_sem]) rfl ⟨vs',R.2.1,by rw[HFI.out.1,HFI.out.2],HIA.out,fun e=>absurd (HFI.out.1.symm.trans e) HE1.out,fun _=>rfl⟩
   have he1:=Decidable.not_not.1 he1
   subst he1
   obtain⟨rfl,hbeq⟩:=H0.out rfl
   have hn1:=HPOS.out rfl
   try simp only at hbeq hn1
   have HST:=lH (HG.out k rfl hbeq)
   have hkl:n≤k∧k≤s.size - q:=⟨hbeq.1,by rw[← HLQ.out];exact hbeq.2.1⟩
   have hv63:vs.length<64:=by
    rcases Nat.lt_or_ge vs.length 64 with h|h
    ·exact h
    ·exact absurd (⟨by omega,by omega⟩:vs.length=64∧q<s.size) HNM.out
   have HSG:=lH (fun W=>xeE s { data:=#[44,125] } (q+k) W (by omega) (by omega))
   rw[h44,show (bI s).drop (q+k)=((bI s).drop q).drop k by rw[List.drop_drop]] at HSG
   have hsl:=xgt [44,125] (((bI s).drop q).drop k)
   rw[List.length_drop,HLQ.out] at hsl
   generalize xcR [44,125] (((bI s).drop q).drop k)=T at HSG HST hsl
   unfold xlz at HSG
   clear H0 H1 HG HBAD HPOS hbeq
   go_wp2_with fail
   refine(HSG.out _).mono ?_
   rintro e wb ⟨rfl,hb2⟩
   have HIB2:=lH (HIB.out _ _ _ HIA.out hb2)
   clear hb2
   by_cases h4:T.1=44
   ·have hd4:(T.1 != 44)=false:=by simpa using h4
    have hst:=HST.out.1 h4
    have HPM2:=lH hst.2.2
    clear hst h4
    go_wp2_with fail
    go_roundw
    case rel=>exact⟨q+k+T.2.1,g,vs++[nv],rfl,by rw[List.length_append];go_num,by omega,by omega,by rw[List.length_append];simp only[List.length_singleton];omega,by omega,HIB2,lH (by
      have:=HPM2.out
      rwa[List.drop_drop,← Nat.add_assoc] at this)⟩
    case measure=>simp[intOf];omega
   ·have hd4:(T.1 != 44)=true:=by simpa using h4
    have hst:=HST.out.2 h4
    have HPM2:=lH hst
    clear hst h4
    go_wp2_with fail
    refine bodyPost_ret (v:=.tuple #[.int .i64 ((q+k+T.2.1:Nat):Int),.int .i64 T.2.2]) (by simp[results,Tryz.results239,go_sem]) rfl (xdo.fin (Nat.le_of_lt hpq) hq HPM2.out HIB2.out)
def xAt (b:Int) (l:Jl):Js:=if b=91 then .arr l else .obj l
theorem xlI (F d:Nat) (b:Int) (t:List Int) (h:b=91∨b=123):xai (F+1) d (b :: t)=(if (xbA F d (decide (b=123)) b t).2.2≠0 then .nul else xAt b (xbA F d (decide (b=123)) b t).1,(xbA F d (decide (b=123)) b t).2.1,(xbA F d (decide (b=123)) b t).2.2):=by
 rw[xca F d b t h]
 unfold xbA xAt
 by_cases h1:4<d
 ·rw[if_pos h1,if_pos h1];simp
 rw[if_neg h1,if_neg h1]
 by_cases h2:xbK (t.drop (xab t))=b+2
 ·rw[if_pos h2,if_pos h2];simp
 rw[if_neg h2,if_neg h2]
 by_cases h3:(xax F d (decide (b=123)) (b+2) [] 0 (t.drop (xab t))).2.2≠0
 ·rw[if_pos h3,if_pos h3]
 ·rw[if_neg h3,if_neg h3]
  have:=Decidable.not_not.1 h3
  rw[this]
theorem TkE.box {F d:Nat} {b:Int} {t:List Int} {l:List Int} {p:Nat} {w w':World} {vs:Its} {k:Nat} {x:Value} (hb:b=91∨b=123) (hl:l=b :: t)
  (h0:(xbA F d (decide (b=123)) b t).2.2=0→xfL vs .nil=(xbA F d (decide (b=123)) b t).1∧BEq l (xbA F d (decide (b=123)) b t).2.1 k) (h1:(xbA F d (decide (b=123)) b t).2.2≠0→k=(xbA F d (decide (b=123)) b t).2.1)
  (hx:xas (fun b=>w.heap.size≤b) w' (xAt b (xfL vs .nil)) x) (hbl:Below w.heap.size w w') :
  TkE (xai (F+1) d l) l p w (.returned (.tuple #[x,.int .i64 ((p+k:Nat):Int),.int .i64 (xbA F d (decide (b=123)) b t).2.2])) w':=by
 subst hl
 rw[xlI F d b t hb]
 refine⟨⟨x,xAt b (xfL vs .nil),k,rfl,hx,fun e=>?_,fun e=>h1 e⟩,hbl⟩
 have e':(xbA F d (decide (b=123)) b t).2.2=0:=e
 obtain⟨g1,g2⟩:=h0 e'
 simp only
 rw[if_neg (by rw[e'];simp),g1]
 exact⟨rfl,g2⟩
theorem xqd (pr:Bool) (s:ByteArray) (d:Nat) (w:World):Ls pr w.heap.size (w.heap.size+1) (w.heap.size+1+1) (w.heap.size+1+1+1) s d w []
  ((((w.alloc (.cells #[.string s] 9)).alloc (.cells #[.int .i64 d] 3)).alloc (.cells #[] (tyI pr))).alloc (.cells #[.slice (some ⟨w.heap.size+1+1,0,none⟩) 0 0] (slI pr))):=by
 obtain⟨w1,h1⟩:∃ w1,w.alloc (.cells #[.string s] 9)=w1:=⟨_,rfl⟩
 obtain⟨w2,h2⟩:∃ w2,w1.alloc (.cells #[.int .i64 d] 3)=w2:=⟨_,rfl⟩
 obtain⟨w3,h3⟩:∃ w3,w2.alloc (.cells #[] (tyI pr))=w3:=⟨_,rfl⟩
 obtain⟨w4,h4⟩:∃ w4,w3.alloc (.cells #[.slice (some ⟨w.heap.size+1+1,0,none⟩) 0 0] (slI pr))=w4:=⟨_,rfl⟩
 rw[h1,h2,h3,h4]
 have s1:w1.heap.size=w.heap.size+1:=by rw[← h1];simp
 have s2:w2.heap.size=w.heap.size+1+1:=by rw[← h2,World.size_alloc,s1]
 have s3:w3.heap.size=w.heap.size+1+1+1:=by rw[← h3,World.size_alloc,s2]
 have s4:w4.heap.size=w.heap.size+1+1+1+1:=by rw[← h4,World.size_alloc,s3]
 have a4:w4.heap[w.heap.size+1+1+1]?=some (.cells #[.slice (some ⟨w.heap.size+1+1,0,none⟩) 0 0] (slI pr) (0,0)):=by rw[← h4,← s3];exact xdD _ _
 have a3:w4.heap[w.heap.size+1+1]?=some (.cells #[] (tyI pr) (0,0)):=by rw[← h4,xbi (by omega),← h3,← s2];exact xdD _ _
 have a2:w4.heap[w.heap.size+1]?=some (.cells #[.int .i64 d] 3 (0,0)):=by rw[← h4,xbi (by omega),← h3,xbi (by omega),← h2,← s1];exact xdD _ _
 have a1:w4.heap[w.heap.size]?=some (.cells #[.string s] 9 (0,0)):=by rw[← h4,xbi (by omega),← h3,xbi (by omega),← h2,xbi (by omega),← h1];exact xdD _ _
 refine⟨⟨.slice (some ⟨w.heap.size+1+1,0,none⟩) 0 0,by simp[World.cell?,a4],⟨[],⟨by simp,.inr ⟨w.heap.size+1+1,0,#[],rfl,Nat.le_refl _,a3,Nat.le_refl _,by unfold maxLen;omega,by simp,by simp⟩⟩,fun j p h=>by simp at h⟩,by simp[Value.ownBlock]⟩,by simp[World.frozen?,a4],by simp[World.cell?,a1],by simp[World.cell?,a2],⟨Nat.le_refl _,by omega,by omega,by omega,by omega,by omega⟩,?_⟩
 rw[← h4,← h3,← h2,← h1]
 exact((((Below.refl _ w).alloc (Nat.le_refl _) _).alloc (by simp) _).alloc (by simp;omega) _).alloc (by simp;omega) _
theorem xxd {pr:Bool} {bs bd B bl:Nat} {s:ByteArray} {d:Nat} {w0:World} {vs:Its} {W:World} (h:Ls pr bs bd B bl s d w0 vs W):∃ a n c,W.cell? ⟨bl,0,none⟩=some (.slice a n c)∧(pr=false→xas (fun b=>w0.heap.size≤b) W (.arr (xfL vs .nil)) (.iface 343 (.slice a n c)))∧(pr=true→xas (fun b=>w0.heap.size≤b) W (.obj (xfL vs .nil)) (.iface 136 (.slice a n c))):=by
 obtain⟨l,h1,h2,h3⟩:=h.ex
 obtain⟨o1,o2,o3,o4,o5,o6⟩:=h.ord
 obtain⟨a,cap,rfl,_⟩:=xdw h2
 have hX:∀ b,B≤b→b<W.heap.size→(Value.slice a vs.length cap).ownBlock=some b→B≤b∧b≠bl:=fun b hb _ e=>⟨hb,fun x=>h3 (by rw[e,x])⟩
 refine⟨a,_,cap,h1,fun e=>?_,fun e=>?_⟩
 ·subst e
  exact(xsQ h2 hX).mono fun b hb=>by omega
 ·subst e
  exact(xke h2 hX).mono fun b hb=>by omega
theorem xql (F:Nat) (s:ByteArray) (p d:Nat) (w:World) (hs:s.size≤5000) (hF:2*(s.size - p)≤F) (HT:∀ g q,p<q→q≤s.size→2*(s.size - q)+1≤g→xBa g s q) (hd:d≤5) (ht:QTab w) (t:List Int) (hp:(bI s).drop p=91 :: t) :
  Calls Tryz.prog 205 #[.string s,.int .i64 p,.int .i64 d] w (TkE (xai (F+1) d ((bI s).drop p)) ((bI s).drop p) p w):=by
 by_cases hd4:4<d
 ·have HV:xai (F+1) d ((bI s).drop p)=(.nul,0,20):=by rw[hp,xca F d 91 t (by omega),if_pos hd4]
  rw[HV]
  have HD:=lH (fun W c=>xhB s p d W { data:=#[93] } c hd4)
  unfold TkE
  clear hp HT HV
  go_enter Tryz.func205,Tryz.ntmps205
  go_wp2_with fail
  refine(HD.out _ _).mono ?_
  rintro e w1 ⟨rfl,rfl⟩
  go_wp2_with fail
  go_ret3
  exact⟨⟨_,.arr .nil,0,rfl,by rw[xas];exact⟨_,_,rfl,Nat.zero_le _,by unfold maxLen;omega,by rw[xhm];trivial⟩,fun e=>by simp at e,fun _=>rfl⟩,by go_grown⟩
 have HL:=lH (xqd false s d w)
 have HP:=lH (fun(W:World) (hI:Ls false w.heap.size (w.heap.size+1) (w.heap.size+1+1) (w.heap.size+1+1+1) s d w [] W)=>xoH F s p d W (Ls false w.heap.size (w.heap.size+1) (w.heap.size+1+1) (w.heap.size+1+1+1) s d w) w.heap.size (w.heap.size+1) (w.heap.size+1+1+1) (fun vs W W' h hb=>h.below hb)
  (fun g vs q W hg hv hpq hI hq=>xla g w.heap.size (w.heap.size+1) (w.heap.size+1+1) (w.heap.size+1+1+1) s d q w vs W hI (by omega) hq hs (HT g q hpq hq hg) (by omega) ht) 91 t hp hs hF hI rfl)
 have HB:=lH (fun w' vs k x=>TkE.box (F:=F) (d:=d) (b:=91) (t:=t) (l:=(bI s).drop p) (p:=p) (w:=w) (w':=w') (vs:=vs) (k:=k) (x:=x) (by omega) hp)
 have hdec:decide ((91:Int)=123)=false:=by decide
 rw[hdec] at HB
 generalize xbA F d false 91 t=R at HP HB
 generalize TkE (xai (F+1) d ((bI s).drop p)) ((bI s).drop p) p w=Q at HB ⊢
 unfold xdo at HP
 clear hp HT
 go_enter Tryz.func205,Tryz.ntmps205
 go_wp2_with fail
 refine(HP.out _ HL.out).mono ?_
 rintro e w1 ⟨vs,k,rfl,hI,h0,h1⟩
 obtain⟨a,n,c,hc,hA,hO⟩:=xxd hI
 have HA:=lH hA
 have HO:=lH hO
 have hlt:=hI.ord.2.2.2.2.2
 have HBL:=lH hI.bel
 have H0:=lH h0
 have H1:=lH h1
 clear hI hA hO h0 h1
 go_wp2_with fail
 exact(HB.out w1 vs k _ H0.out H1.out (by unfold xAt;simp only[if_true];exact HA.out trivial) HBL.out)
theorem xwD (F:Nat) (s:ByteArray) (p d:Nat) (w:World) (hs:s.size≤5000) (hF:2*(s.size - p)≤F) (HT:∀ g q,p<q→q≤s.size→2*(s.size - q)+1≤g→xBa g s q) (hd:d≤5) (ht:QTab w) (t:List Int) (hp:(bI s).drop p=123 :: t) :
  Calls Tryz.prog 206 #[.string s,.int .i64 p,.int .i64 d] w (TkE (xai (F+1) d ((bI s).drop p)) ((bI s).drop p) p w):=by
 by_cases hd4:4<d
 ·have HV:xai (F+1) d ((bI s).drop p)=(.nul,0,20):=by rw[hp,xca F d 123 t (by omega),if_pos hd4]
  rw[HV]
  have HD:=lH (fun W c=>xhB s p d W { data:=#[125] } c hd4)
  unfold TkE
  clear hp HT HV
  go_enter Tryz.func206,Tryz.ntmps206
  go_wp2_with fail
  refine(HD.out _ _).mono ?_
  rintro e w1 ⟨rfl,rfl⟩
  go_wp2_with fail
  go_ret3
  exact⟨⟨_,.obj .nil,0,rfl,by rw[xas];exact⟨_,_,rfl,Nat.zero_le _,by unfold maxLen;omega,by rw[xfv];trivial⟩,fun e=>by simp at e,fun _=>rfl⟩,by go_grown⟩
 have HL:=lH (xqd true s d w)
 have HP:=lH (fun(W:World) (hI:Ls true w.heap.size (w.heap.size+1) (w.heap.size+1+1) (w.heap.size+1+1+1) s d w [] W)=>xre F s p d W (Ls true w.heap.size (w.heap.size+1) (w.heap.size+1+1) (w.heap.size+1+1+1) s d w) w.heap.size (w.heap.size+1+1+1) (w.heap.size+1) (fun vs W W' h hb=>h.below hb)
  (fun g vs q W hg hv hpq hI hq=>xo2 g w.heap.size (w.heap.size+1) (w.heap.size+1+1) (w.heap.size+1+1+1) s d q w vs W hI (by omega) hq hs (HT g q hpq hq hg) (by omega) ht) 123 t hp hs hF hI rfl)
 have HB:=lH (fun w' vs k x=>TkE.box (F:=F) (d:=d) (b:=123) (t:=t) (l:=(bI s).drop p) (p:=p) (w:=w) (w':=w') (vs:=vs) (k:=k) (x:=x) (by omega) hp)
 have hdec:decide ((123:Int)=123)=true:=by decide
 rw[hdec] at HB
 generalize xbA F d true 123 t=R at HP HB
 generalize TkE (xai (F+1) d ((bI s).drop p)) ((bI s).drop p) p w=Q at HB ⊢
 unfold xdo at HP
 clear hp HT
 go_enter Tryz.func206,Tryz.ntmps206
 go_wp2_with fail
 refine(HP.out _ HL.out).mono ?_
 rintro e w1 ⟨vs,k,rfl,hI,h0,h1⟩
 obtain⟨a,n,c,hc,hA,hO⟩:=xxd hI
 have HA:=lH hA
 have HO:=lH hO
 have hlt:=hI.ord.2.2.2.2.2
 have HBL:=lH hI.bel
 have H0:=lH h0
 have H1:=lH h1
 clear hI hA hO h0 h1
 go_wp2_with fail
 exact(HB.out w1 vs k _ H0.out H1.out (by unfold xAt;simp only[show ¬ ((123:Int)=91) by decide,if_false];exact HO.out trivial) HBL.out)
theorem TkE.word {wd:List Int} {v u:Js} {l:List Int} {p:Nat} {w w':World} {x:Value} (hw:1≤wd.length) (hx:xas (fun b=>w.heap.size≤b) w' u x) (hu:u=v) (hb:Below w.heap.size w w') :
  TkE (xcq wd v l) l p w (.returned (.tuple #[x,.int .i64 ((p+(xb3 wd l 0).1:Nat):Int),.int .i64 (xb3 wd l 0).2])) w':=by
 have hle:=xia wd l 0
 unfold xcq
 by_cases h:(xb3 wd l 0).2=0
 ·rw[if_pos h]
  exact⟨⟨x,u,_,by rw[h],hx,fun _=>⟨hu,BEq.same (show (xb3 wd l 0).1≤l.length by omega)⟩,fun e=>rfl⟩,hb⟩
 ·rw[if_neg h]
  exact⟨⟨x,u,_,rfl,hx,fun e=>absurd e h,fun e=>rfl⟩,hb⟩
theorem xpl (f d:Nat) (b:Int) (t:List Int):xai (f+1) d (b :: t) =
  if b=110 then xcq [110,117,108,108] .nul (b :: t)
  else if b=102 then xcq [102,97,108,115,101] (.bool false) (b :: t)
  else if b=116 then xcq [116,114,117,101] (.bool true) (b :: t)
  else if b=34 then (if (xav (b :: t)).2.2=0 then (.str (xav (b :: t)).1,(xav (b :: t)).2.1,0) else (.nul,(xav (b :: t)).2.1,(xav (b :: t)).2.2))
  else if b=91∨b=123 then xai (f+1) d (b :: t)
  else xhi (b :: t):=by
 by_cases h:b=91∨b=123
 ·rw[if_neg (by omega),if_neg (by omega),if_neg (by omega),if_neg (by omega),if_pos h]
 ·rw[if_neg h,xai,if_neg h]
  by_cases h5:b=45∨isD b=true
  ·rw[if_pos h5]
  ·rw[if_neg h5]
   have hnum:xhi (b :: t)=(.nul,0,4):=by
    unfold xhi
    rw[if_pos]
    have h45:b≠45:=fun e=>h5 (.inl e)
    have hD:isD b=false:=by simpa using fun e=>h5 (.inr e)
    cases hs:xb8 (b :: t) with
    | zero=>rw[List.take_zero];exact .inl rfl
    | succ m =>
     rw[List.take_succ_cons]
     refine .inr (.inr ?_)
     rw[xaX,if_neg h45,List.all_cons,hD]
     simp
   rw[hnum]
theorem xsH (g:Nat) (HT:xxE g):xxE (g+1):=by
 intro d s p w hp hs hg hd ht
 have hl:=xaj s
 by_cases he:p=s.size
 ·have HV:xai (g+1) d ((bI s).drop p)=(.nul,0,3):=by rw[List.drop_of_length_le (by omega),xai]
  rw[HV]
  have q2:((p:Int) == (s.size:Int))=true:=by simpa using (show (p:Int)=s.size by omega)
  unfold TkE
  clear HV he hl HT
  go_enter Tryz.func134,Tryz.ntmps134
  go_wp2_with fail
  go_ret3
  exact⟨⟨.nilIface,.nul,0,rfl,by rw[xas],fun e=>by simp at e,fun _=>rfl⟩,by go_grown⟩
 have hlt:p<s.size:=by omega
 have q2:((p:Int) == (s.size:Int))=false:=by rw[beq_eq_false_iff_ne];omega
 have q3:(p:Int)<(s.size:Int):=by omega
 have hsp:=xf3 s p hlt
 have hbl:=(s[p]'hlt).toNat_lt
 obtain⟨b,hbv⟩:∃ b:Int,((s[p]'hlt).toNat:Int)=b:=⟨_,rfl⟩
 rw[hbv] at hsp
 obtain⟨t,htt⟩:∃ t,(bI s).drop (p+1)=t:=⟨_,rfl⟩
 rw[htt] at hsp
 have hv:=xpl g d b t
 rw[← hsp] at hv
 have hlq:((bI s).drop p).length=s.size - p:=by rw[List.length_drop,xaj]
 by_cases h110:b=110
 ·have hv:xai (g+1) d ((bI s).drop p)=xcq [110,117,108,108] .nul ((bI s).drop p):=by rw[hv];simp only[h110];simp
  rw[hv]
  have HW:=lH (fun W=>xft s { data:=#[110,117,108,108] } p W hp (by omega) (by decide))
  have hwd:bI { data:=#[110,117,108,108] }=[110,117,108,108]:=rfl
  rw[hwd] at HW
  have HE:=lH (fun w' x h1 h2=>TkE.word (wd:=[110,117,108,108]) (v:=.nul) (u:=.nul) (l:=(bI s).drop p) (p:=p) (w:=w) (w':=w') (x:=x) (by simp) h1 rfl h2)
  subst h110
  generalize xb3 [110,117,108,108] ((bI s).drop p) 0=R at HW HE
  generalize TkE (xcq [110,117,108,108] .nul ((bI s).drop p)) ((bI s).drop p) p w=Q at HE ⊢
  clear hv hsp hbl hlq hl HT hwd
  go_enter Tryz.func134,Tryz.ntmps134
  go_wp2_with fail
  refine(HW.out _).mono ?_
  rintro e w1 ⟨rfl,hb1⟩
  go_wp2_with fail
  exact HE.out w1 .nilIface (by rw[xas]) hb1
 have f110:(b == 110)=false:=by rw[beq_eq_false_iff_ne];exact h110
 by_cases h116:b=116
 ·have hv:xai (g+1) d ((bI s).drop p)=xcq [116,114,117,101] (.bool true) ((bI s).drop p):=by rw[hv];simp only[h116];simp
  rw[hv]
  have HW:=lH (fun W=>xft s { data:=#[116,114,117,101] } p W hp (by omega) (by decide))
  have hwd:bI { data:=#[116,114,117,101] }=[116,114,117,101]:=rfl
  rw[hwd] at HW
  have HE:=lH (fun w' x h1 h2=>TkE.word (wd:=[116,114,117,101]) (v:=(.bool true)) (u:=(.bool true)) (l:=(bI s).drop p) (p:=p) (w:=w) (w':=w') (x:=x) (by simp) h1 rfl h2)
  subst h116
  generalize xb3 [116,114,117,101] ((bI s).drop p) 0=R at HW HE
  generalize TkE (xcq [116,114,117,101] (.bool true) ((bI s).drop p)) ((bI s).drop p) p w=Q at HE ⊢
  clear hv hsp hbl hlq hl HT hwd
  go_enter Tryz.func134,Tryz.ntmps134
  go_wp2_with fail
  refine(HW.out _).mono ?_
  rintro e w1 ⟨rfl,hb1⟩
  go_wp2_with fail
  exact HE.out w1 (.iface 4 (.bool true)) (by rw[xas]) hb1
 have f116:(b == 116)=false:=by rw[beq_eq_false_iff_ne];exact h116
 by_cases h102:b=102
 ·have hv:xai (g+1) d ((bI s).drop p)=xcq [102,97,108,115,101] (.bool false) ((bI s).drop p):=by rw[hv];simp only[h102];simp
  rw[hv]
  have HW:=lH (fun W=>xft s { data:=#[102,97,108,115,101] } p W hp (by omega) (by decide))
  have hwd:bI { data:=#[102,97,108,115,101] }=[102,97,108,115,101]:=rfl
  rw[hwd] at HW
  have HE:=lH (fun w' x h1 h2=>TkE.word (wd:=[102,97,108,115,101]) (v:=(.bool false)) (u:=(.bool false)) (l:=(bI s).drop p) (p:=p) (w:=w) (w':=w') (x:=x) (by simp) h1 rfl h2)
  subst h102
  generalize xb3 [102,97,108,115,101] ((bI s).drop p) 0=R at HW HE
  generalize TkE (xcq [102,97,108,115,101] (.bool false) ((bI s).drop p)) ((bI s).drop p) p w=Q at HE ⊢
  clear hv hsp hbl hlq hl HT hwd
  go_enter Tryz.func134,Tryz.ntmps134
  go_wp2_with fail
  refine(HW.out _).mono ?_
  rintro e w1 ⟨rfl,hb1⟩
  go_wp2_with fail
  exact HE.out w1 (.iface 4 (.bool false)) (by rw[xas]) hb1
 have f102:(b == 102)=false:=by rw[beq_eq_false_iff_ne];exact h102
 by_cases h34:b=34
 ·have hv:xai (g+1) d ((bI s).drop p)=(if (xav ((bI s).drop p)).2.2=0 then (.str (xav ((bI s).drop p)).1,(xav ((bI s).drop p)).2.1,0) else (.nul,(xav ((bI s).drop p)).2.1,(xav ((bI s).drop p)).2.2)):=by rw[hv];simp only[h34];simp
  rw[hv]
  have HJ:=lH (fun W=>xkV s p W hp (by omega))
  rw[xh6 _ _ (by omega)] at HJ
  have htb:=xhD ((bI s).drop p)
  have htl:=xj1 ((bI s).drop p)
  have htle:=xgc ((bI s).drop p)
  rcases htx:xav ((bI s).drop p) with ⟨name,n,e⟩
  rw[htx] at HJ htb htl htle
  simp only at HJ htb htl htle ⊢
  have hnb:=xqO name htb
  have HE:=lH (show ∀ w',Below w.heap.size w w'→TkE (if e=0 then (.str name,n,0) else (.nul,n,e)) ((bI s).drop p) p w (.returned (.tuple #[.iface 9 (.string (str name)),.int .i64 ((p+n:Nat):Int),.int .i64 e])) w' from fun w' hb=>by
   have hx:xas (fun b=>w.heap.size≤b) w' (.str name) (.iface 9 (.string (str name))):=by rw[xas];exact⟨str name,rfl,hnb,by omega⟩
   by_cases h:e=0
   ·rw[if_pos h];exact⟨⟨_,_,n,by rw[h],hx,fun _=>⟨rfl,BEq.same htle⟩,fun _=>rfl⟩,hb⟩
   ·rw[if_neg h];exact⟨⟨_,_,n,rfl,hx,fun x=>absurd x h,fun _=>rfl⟩,hb⟩)
  subst h34
  generalize TkE (if e=0 then (.str name,n,0) else (.nul,n,e)) ((bI s).drop p) p w=Q at HE ⊢
  clear hv hsp hbl hlq hl HT htb htl htle htx hnb
  go_enter Tryz.func134,Tryz.ntmps134
  go_wp2_with fail
  refine(HJ.out _).mono ?_
  rintro e w1 ⟨rfl,hb1⟩
  go_wp2_with fail
  exact HE.out w1 hb1
 have f34:(b == 34)=false:=by rw[beq_eq_false_iff_ne];exact h34
 by_cases h91:b=91
 ·subst h91
  have HP:=lH (fun(W:World) (h:QTab W)=>xql g s p d W hs (by omega) (fun g' q hpq hq hg'=>xxE.at HT hs (by omega) hg') hd h t hsp)
  have HE:=lH (fun(e:Ending) (w1 w2:World) (h:TkE (xai (g+1) d ((bI s).drop p)) ((bI s).drop p) p w1 e w2)=>h)
  generalize xai (g+1) d ((bI s).drop p)=R at HP HE ⊢
  unfold TkE at HP ⊢
  clear hv hsp hbl hlq hl HT HE
  go_enter Tryz.func134,Tryz.ntmps134
  go_wp2_with fail
  refine(HP.out _ ht).mono ?_
  rintro e w1 ⟨⟨x,v,k,rfl,hx,h0,h1⟩,hb⟩
  have HX:=lH hx
  have H0:=lH h0
  have H1:=lH h1
  clear hx h0 h1
  go_wp2_with fail
  go_ret3
  exact⟨⟨x,v,k,rfl,HX.out,H0.out,H1.out⟩,hb⟩
 have f91:(b == 91)=false:=by rw[beq_eq_false_iff_ne];exact h91
 by_cases h123:b=123
 ·subst h123
  have HP:=lH (fun(W:World) (h:QTab W)=>xwD g s p d W hs (by omega) (fun g' q hpq hq hg'=>xxE.at HT hs (by omega) hg') hd h t hsp)
  have HE:=lH (fun(e:Ending) (w1 w2:World) (h:TkE (xai (g+1) d ((bI s).drop p)) ((bI s).drop p) p w1 e w2)=>h)
  generalize xai (g+1) d ((bI s).drop p)=R at HP HE ⊢
  unfold TkE at HP ⊢
  clear hv hsp hbl hlq hl HT HE
  go_enter Tryz.func134,Tryz.ntmps134
  go_wp2_with fail
  refine(HP.out _ ht).mono ?_
  rintro e w1 ⟨⟨x,v,k,rfl,hx,h0,h1⟩,hb⟩
  have HX:=lH hx
  have H0:=lH h0
  have H1:=lH h1
  clear hx h0 h1
  go_wp2_with fail
  go_ret3
  exact⟨⟨x,v,k,rfl,HX.out,H0.out,H1.out⟩,hb⟩
 have f123:(b == 123)=false:=by rw[beq_eq_false_iff_ne];exact h123
 have hv:xai (g+1) d ((bI s).drop p)=xhi ((bI s).drop p):=by
  rw[hv,if_neg h110,if_neg h102,if_neg h116,if_neg h34,if_neg (by omega)]
 rw[hv]
 have HN:=lH (xkI s p w hp (by omega) ht)
 have hsl:=xlZ ((bI s).drop p)
 have HE:=lH (show (xhi ((bI s).drop p)).2.2=0→BEq ((bI s).drop p) (xhi ((bI s).drop p)).2.1 (xhi ((bI s).drop p)).2.1 from fun h=>BEq.same (by
  unfold xhi at h ⊢
  split
  ·simp
  split
  ·simp
  ·exact hsl))
 generalize xhi ((bI s).drop p)=R at HN HE ⊢
 unfold xCz at HN
 unfold TkE
 clear hv hsp hbl hlq hl HT hsl
 go_enter Tryz.func134,Tryz.ntmps134
 go_wp2_with fail
 refine HN.out.mono ?_
 rintro e w1 ⟨x,rfl,hx,hb⟩
 have HX:=lH hx
 clear hx
 go_wp2_with fail
 go_ret3
 exact⟨⟨x,R.1,R.2.1,rfl,HX.out _ _,fun h=>⟨rfl,HE.out h⟩,fun _=>rfl⟩,hb⟩
theorem xnB:∀ g,xxE g
 | 0=>fun d s p w hp hs hg=>absurd hg (by omega)
 | g+1=>xsH g (xnB g)
theorem xvA (s:List Int) (hl:¬ 4096<s.length):xd5 s=if (xai (xek s) 1 (s.drop (xab s))).2.2≠0 then (.nul,xab s+(xai (xek s) 1 (s.drop (xab s))).2.1,(xai (xek s) 1 (s.drop (xab s))).2.2) else
  if xab s+(xai (xek s) 1 (s.drop (xab s))).2.1+xab (s.drop (xab s+(xai (xek s) 1 (s.drop (xab s))).2.1))<s.length then (.nul,xab s+(xai (xek s) 1 (s.drop (xab s))).2.1+xab (s.drop (xab s+(xai (xek s) 1 (s.drop (xab s))).2.1)),4)
  else ((xai (xek s) 1 (s.drop (xab s))).1,xab s+(xai (xek s) 1 (s.drop (xab s))).2.1+xab (s.drop (xab s+(xai (xek s) 1 (s.drop (xab s))).2.1)),0):=by
 unfold xd5
 rw[if_neg hl]
def xwb (V:Js × Nat × Int) (w:World) (e:Ending) (w':World):Prop:=(∃ x,e=.returned (.tuple #[x,.int .i64 (V.2.1:Int),.int .i64 V.2.2])∧xas aB w' V.1 x)∧Below w.heap.size w w'
theorem xjI (s:ByteArray) (w:World) (ht:QTab w) (hs:s.size≤1000000):Calls Tryz.prog 66 #[.string s] w (xwb (xd5 (bI s)) w):=by
 have hl:=xaj s
 unfold xwb
 by_cases h1:4096<s.size
 ·rw[xpb _ (by omega)]
  have e1:decide (4096<(s.size:Int))=true:=by simp;omega
  clear hl
  go_enter Tryz.func66,Tryz.ntmps66
  go_wp2_with fail
  go_ret3
  exact⟨⟨.nilIface,rfl,by rw[xas]⟩,by go_grown⟩
 have e1:decide (4096<(s.size:Int))=false:=by simp;omega
 have HV:=lH (xvA (bI s) (by omega))
 have HP:=lH (fun W=>xdI s 0 W (Nat.zero_le _) (by omega))
 have hb0:=xb5 (bI s)
 rw[List.drop_zero,Nat.zero_add] at HP
 obtain⟨p,hp⟩:∃ p,xab (bI s)=p:=⟨_,rfl⟩
 rw[hp] at HP HV hb0
 have HT:=lH (fun W h=>xnB (xek (bI s)) 1 s p W (by omega) (by omega) (by unfold xek;omega) (by omega) h)
 have hin:=((xxu (xek (bI s))).1 1 ((bI s).drop p)).1
 rw[List.length_drop] at hin
 generalize xai (xek (bI s)) 1 ((bI s).drop p)=R at HT HV hin
 unfold TkE at HT
 generalize xd5 (bI s)=V at HV ⊢
 clear hp
 go_enter Tryz.func66,Tryz.ntmps66
 go_wp2_with fail
 refine(HP.out _).mono ?_
 rintro e w1 ⟨rfl,hb1⟩
 have HB1:=lH hb1
 clear hb1
 go_wp2_with fail
 refine(HT.out _ (ht.below HB1.out)).mono ?_
 rintro e w2 ⟨⟨x,v,k,rfl,hx,h0,h1⟩,hb2⟩
 have HB2:=lH (HB1.out.trans (hb2.mono HB1.out.size))
 have HX:=lH (hx.mono (S':=aB) (fun _ _=>trivial))
 have H0:=lH h0
 have H1:=lH h1
 clear hx h0 h1 hb2
 by_cases he:R.2.2≠0
 ·have hde:(R.2.2 != 0)=true:=by simpa using he
  have hV:V=(.nul,p+R.2.1,R.2.2):=by rw[HV.out,if_pos he]
  have hk:=H1.out he
  subst hV
  subst hk
  clear he
  go_wp2_with fail
  go_ret3
  exact⟨⟨.nilIface,rfl,by rw[xas]⟩,HB2.out⟩
 have he:=Decidable.not_not.1 he
 have hde:(R.2.2 != 0)=false:=by rw[he];rfl
 obtain⟨rfl,hbq⟩:=H0.out he
 obtain⟨b1,b2,b3⟩:=hbq
 rw[List.length_drop] at b2
 have HP2:=lH (fun W=>xdI s (p+k) W (by omega) (by omega))
 have hm:p+k+xab ((bI s).drop (p+k))=p+R.2.1+xab ((bI s).drop (p+R.2.1)):=by
  rw[List.drop_drop,List.drop_drop] at b3
  omega
 rw[hm] at HP2
 have hR:V=if p+R.2.1+xab ((bI s).drop (p+R.2.1))<s.size then (.nul,p+R.2.1+xab ((bI s).drop (p+R.2.1)),4) else (R.1,p+R.2.1+xab ((bI s).drop (p+R.2.1)),0):=by
  rw[HV.out,if_neg (by rw[he];simp),hl]
 generalize p+R.2.1+xab ((bI s).drop (p+R.2.1))=m at HP2 hR
 have HR:=lH hR
 clear hR hm b1 b2 b3
 go_wp2_with fail
 refine(HP2.out _).mono ?_
 rintro e w3 ⟨rfl,hb3⟩
 have HB3:=lH (HB2.out.trans (hb3.mono HB2.out.size))
 have HX3:=lH (HX.out.below hb3)
 clear hb3
 by_cases hlt:m<s.size
 ·have e2:decide ((m:Int)<(s.size:Int))=true:=by simp;omega
  have hV:V=(.nul,m,4):=by rw[HR.out,if_pos hlt]
  subst hV
  have hlt':(m:Int)<(s.size:Int):=by omega
  go_wp2_with fail
  go_ret3
  exact⟨⟨.nilIface,rfl,by rw[xas]⟩,HB3.out⟩
 ·have e2:decide ((m:Int)<(s.size:Int))=false:=by simp;omega
  have hV:V=(R.1,m,0):=by rw[HR.out,if_neg hlt]
  subst hV
  have hlt':¬ (m:Int)<(s.size:Int):=by omega
  go_wp2_with fail
  go_ret3
  exact⟨⟨x,rfl,HX3.out⟩,HB3.out⟩
end Go.Proofs.YtjkgkmmkehnggaaGreatDoor
