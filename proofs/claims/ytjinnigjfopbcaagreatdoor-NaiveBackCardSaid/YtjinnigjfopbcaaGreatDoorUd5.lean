/- dPs dPo dPx dPz dPy dLe dLf dPn dPr. -/
import Derived.Test.YtjinnigjfopbcaaGreatDoorUd4
import Derived.Lib.AppendIntMem
import Derived.Test.YtjinnigjfopbcaaGreatDoorUs
namespace Go.Proofs.YtjinnigjfopbcaaGreatDoor
set_option linter.unusedVariables false
set_option linter.unusedSimpArgs false
open Go.RowKit
set_option maxRecDepth 20000
set_option maxHeartbeats 2000000
def xcR (sg l:List Int):Int × Nat × Int:=match l.drop (xaa l) with
 | []=>(0,xaa l,3)
 | b :: t=>if b ∈ sg then (b,xaa l+1+xaa t,0) else (0,xaa l,4)
theorem xb7:∀ l:List Int,xaa l≤l.length
 | []=>Nat.le_refl _
 | b :: t=>by rw[xaa];split <;> simp;exact xb7 t
def xlp (R:Int × Nat × Int) (p:Nat) (w:World) (e:Ending) (w':World):Prop :=
 e=.returned (.tuple #[.int .u8 R.1,.int .i64 ((p+R.2.1:Nat):Int),.int .i64 R.2.2])∧Below w.heap.size w w'
theorem xeK (s sg:ByteArray) (p:Nat) (w:World) (hp:p≤s.size) (hs:s.size≤10000):Calls Tryz.prog 286 #[.string s,.int .i64 p,.string sg] w (xlp (xcR (bI sg) ((bI s).drop p)) p w):=by
 have HP:=lH (fun W=>xdO s p W hp hs)
 obtain⟨m,hm⟩:∃ m,xaa ((bI s).drop p)=m:=⟨_,rfl⟩
 have hml:=xb7 ((bI s).drop p)
 rw[hm,List.length_drop,xah] at hml
 rw[hm] at HP
 obtain⟨q,hq⟩:∃ q,p+m=q:=⟨_,rfl⟩
 have hR:xcR (bI sg) ((bI s).drop p)=match (bI s).drop q with
   | []=>(0,m,3)
   | b :: t=>if b ∈ bI sg then (b,m+1+xaa t,0) else (0,m,4):=by
  unfold xcR
  rw[hm,List.drop_drop,hq]
 rw[hq] at HP
 have hl:=xah s
 obtain⟨R,hRR⟩:∃ R,xcR (bI sg) ((bI s).drop p)=R:=⟨_,rfl⟩
 rw[hRR] at hR ⊢
 unfold xlp
 clear hm hRR
 have HMQ:=lH hq
 by_cases he:q=s.size
 ·have hR:R=(0,m,3):=by rw[hR,List.drop_of_length_le (by omega)]
  subst hR
  have q2:((q:Int) == (s.size:Int))=true:=by simpa using (show (q:Int)=s.size by omega)
  clear hl hml hq he
  go_enter Tryz.func286,Tryz.ntmps286
  go_wp2_with fail
  refine(HP.out _).mono ?_
  rintro e w1 ⟨rfl,hb1⟩
  go_wp2_with fail
  refine bodyPost_ret (v:=.tuple #[.int .u8 0,.int .i64 (q:Int),.int .i64 3]) (by simp[results,Tryz.results286,go_sem]) rfl ⟨by rw[← HMQ.out],hb1⟩
 have hlt:q<s.size:=by omega
 have q2:((q:Int) == (s.size:Int))=false:=by rw[beq_eq_false_iff_ne];omega
 have q3:(q:Int)<(s.size:Int):=by omega
 have hsp:=xge s q hlt
 have hbl:=(s[q]'hlt).toNat_lt
 obtain⟨b,hbv⟩:∃ b:Int,((s[q]'hlt).toNat:Int)=b:=⟨_,rfl⟩
 rw[hbv] at hsp
 rw[hsp] at hR
 have HI:=lH (fun W=>xzH sg b W (by omega) (by omega))
 have HP2:=lH (fun W=>xdO s (q+1) W (by omega) hs)
 obtain⟨z,hz⟩:∃ z,q+1+xaa ((bI s).drop (q+1))=z:=⟨_,rfl⟩
 rw[hz] at HP2
 obtain⟨y,hy⟩:∃ y,q+1=y:=⟨_,rfl⟩
 have hw1:IntKind.i64.wrap ((q:Int)+1)=(y:Int):=by rw[IntKind.wrap_i64] <;> omega
 rw[hy] at HP2
 by_cases hin:b ∈ bI sg
 ·have hR:R=(b,m+1+xaa ((bI s).drop (q+1)),0):=by rw[hR];simp only[if_pos hin]
  subst hR
  have HZ:=lH (show p+(m+1+xaa ((bI s).drop (q+1)))=z by omega)
  clear hl hsp hz hq hy hml
  go_enter Tryz.func286,Tryz.ntmps286
  go_wp2_with fail
  refine(HP.out _).mono ?_
  rintro e w1 ⟨rfl,hb1⟩
  have HB1:=lH hb1
  clear hb1
  go_wp2_with fail
  refine(HI.out _).mono ?_
  rintro e w2 ⟨⟨r,rfl,hr⟩,rfl⟩
  have hr0:¬ r<0:=fun x=>hr.1 x hin
  have HB2:=HB1
  clear hr
  go_upto_region 6 with fail
  refine wp_region_held_drew (S:=fun w'=>Below w.heap.size w w') (by kernel_rfl) (HB2.out.drew) (fun hH0=>?_)
  refine tK 0 24 hH0 ?_
  refine tK 1 25 hH0 ?_
  refine tK 2 26 hH0 ?_
  refine tK 3 27 hH0 ?_
  refine tK 4 28 hH0 ?_
  refine tK 5 29 hH0 ?_
  refine wpAnyH_ready (rs:=[6]) (by kernel_rfl) (by simp) ?_
  refine AllReadyH.cons rfl (fun K hK=>?_) AllReadyH.nil
  go_simp
  refine(HP2.out _).mono ?_
  rintro e w' ⟨rfl,hb⟩
  go_wp2_with fail
  refine hK.out _ _ (hH0.trans (hb.mono hH0.size)) (fun hH1=>?_)
  clear hK K hb hH0
  try simp only[Act.put,zsA,zsB,zsC]
  refine tK 7 6 hH1 ?_
  refine tK 8 7 hH1 ?_
  refine tK 9 8 hH1 ?_
  refine wpAnyH_done (by kernel_rfl) ?_ _
  go_wp2_with fail
  refine bodyPost_ret (v:=.tuple #[.int .u8 b,.int .i64 (z:Int),.int .i64 0]) (by simp[results,Tryz.results286,go_sem]) rfl ⟨by rw[HZ.out],hH1⟩
 ·have hR:R=(0,m,4):=by rw[hR];simp only[if_neg hin]
  subst hR
  clear hl hsp hz hq hy hml
  go_enter Tryz.func286,Tryz.ntmps286
  go_wp2_with fail
  refine(HP.out _).mono ?_
  rintro e w1 ⟨rfl,hb1⟩
  go_wp2_with fail
  refine(HI.out _).mono ?_
  rintro e w2 ⟨⟨r,rfl,hr⟩,rfl⟩
  have hr0:r<0:=hr.2 hin
  clear hr
  go_wp2_with fail
  refine bodyPost_ret (v:=.tuple #[.int .u8 0,.int .i64 (q:Int),.int .i64 4]) (by simp[results,Tryz.results286,go_sem]) rfl ⟨by rw[← HMQ.out],hb1⟩
end Go.Proofs.YtjinnigjfopbcaaGreatDoor
namespace Go.Proofs.YtjinnigjfopbcaaGreatDoor
set_option linter.unusedVariables false
set_option linter.unusedSimpArgs false
open Go.RowKit
set_option maxRecDepth 20000
set_option maxHeartbeats 4000000
theorem xhA:∀ (f:Nat) (l:List Int) (p:Nat) (out:List Int),(∀ b ∈ out,0≤b∧b<256)→∀ b ∈ (xaZ f l p out).1,0≤b∧b<256
 | 0,l,p,out,h=>by simp[xaZ]
 | f+1,l,p,out,h=>by
  rw[xaC]
  cases hs:xbh l with
  | short=>simp
  | form=>simp
  | fin=>exact h
  | piece t n =>
   obtain⟨c,hc⟩:=(xcM l t n hs).rune
   refine xhA f _ _ (out++t) fun b hb=>?_
   rcases List.mem_append.1 hb with hb|hb
   ·exact h b hb
   ·rw[← hc] at hb;exact xgJ c b hb
theorem xhv (l:List Int):∀ b ∈ (xay l).1,0≤b∧b<256:=by
 cases l with
 | nil=>simp[xay]
 | cons b t =>
  rw[xay]
  split
  ·exact xhA _ _ _ _ (by simp)
  ·simp
theorem xre (names:List (List Int)) (l:List Int) (h:(xay l).2.2=0) (hn:(xay l).1 ∉ names):xbk true names l =
  if (xcR [58] (l.drop (xay l).2.1)).2.2≠0 then ([],(xay l).2.1+(xcR [58] (l.drop (xay l).2.1)).2.1,(xcR [58] (l.drop (xay l).2.1)).2.2) else ((xay l).1,(xay l).2.1+(xcR [58] (l.drop (xay l).2.1)).2.1,0):=by
 unfold xbk
 rw[if_neg (by simp)]
 rcases htt:xay l with ⟨name,n,e⟩
 rw[htt] at h hn
 simp only at h hn ⊢
 subst h
 rw[if_neg (by simp),if_neg hn]
 unfold xcR
 rw[List.drop_drop]
 cases hd:l.drop (n+xaa (l.drop n)) with
 | nil=>simp
 | cons c t =>
  have ht:l.drop (n+xaa (l.drop n)+1)=t:=by rw[← List.drop_drop,hd];rfl
  simp only[List.mem_singleton]
  by_cases hc:c=58
  ·subst hc
   rw[if_neg (by simp),if_neg (by simp[xbH]),if_pos rfl,if_neg (by simp),ht]
   simp only[Prod.mk.injEq,true_and,and_true]
   omega
  ·rw[if_neg (by simp),if_pos (by simpa[xbH] using hc),if_neg hc,if_pos (by simp)]
theorem xgs (sg l:List Int):(xcR sg l).2.1≤l.length:=by
 unfold xcR
 have h:=xb7 l
 cases hd:l.drop (xaa l) with
 | nil=>exact h
 | cons c t =>
  have hl:(l.drop (xaa l)).length=t.length+1:=by rw[hd];rfl
  rw[List.length_drop] at hl
  have:=xb7 t
  simp only
  split
  ·simp only;omega
  ·exact h
theorem BEq.add {l:List Int} {a n k:Nat} (h:BEq (l.drop a) n k) (ha:a≤l.length):BEq l (a+n) (a+k):=by
 obtain⟨h1,h2,h3⟩:=h
 rw[List.length_drop] at h2
 rw[List.drop_drop,List.drop_drop] at h3
 refine⟨by omega,by omega,?_⟩
 omega
theorem xkS.bad {R:(List Int × Js) × Nat × Int} {l:List Int} {q:Nat} {I:Its→World→Prop} {vs:Its} {W':World} {k:Nat} {e:Int} (hI:I vs W') (h:R=(([],.nul),k,e)) (he:e≠0):xkS R l q I vs (.returned (.tuple #[.int .i64 ((q+k:Nat):Int),.int .i64 e])) W':=by
 subst h
 exact⟨vs,k,rfl,hI,fun x=>absurd x he,fun _=>rfl⟩
theorem xoD (g:Nat) (bs bd B bl:Nat) (s:ByteArray) (d q:Nat) (w0:World) (vs:Its) (W:World) (hI:Ls true bs bd B bl s d w0 vs W) (hvs:vs.length≤1000000) (hq:q≤s.size) (hs:s.size≤5000) (HT:xzd g s q) (hd:d≤4) (ht:QTab w0) :
  Calls Tryz.prog 284 #[.int .i64 q,.pointer (some ⟨bs,0,none⟩),.pointer (some ⟨bl,0,none⟩),.pointer (some ⟨bd,0,none⟩)] W (xkS (xdU g d true (vs.map (·.1)) ((bI s).drop q)) ((bI s).drop q) q (Ls true bs bd B bl s d w0) vs):=by
 have hlen:((bI s).drop q).length=s.size - q:=by rw[List.length_drop,xah]
 have hj:=fun W=>xkc s q W hq (by omega)
 rw[xhV _ _ (by rw[xah];omega)] at hj
 have htb:=xhv ((bI s).drop q)
 have htl:=xi4 ((bI s).drop q)
 have htle:=xgd ((bI s).drop q)
 have hps:=xre (vs.map (·.1)) ((bI s).drop q)
 have hone:xdU g d true (vs.map (·.1)) ((bI s).drop q)=xdU g d true (vs.map (·.1)) ((bI s).drop q):=rfl
 conv at hone=>rhs;unfold xdU
 have hpb:(xay ((bI s).drop q)).2.2≠0→xbk true (vs.map (·.1)) ((bI s).drop q)=([],(xay ((bI s).drop q)).2.1,(xay ((bI s).drop q)).2.2):=by
  intro h;unfold xbk;rw[if_neg (by simp)]
  rcases htt:xay ((bI s).drop q) with ⟨name,n,e⟩
  rw[htt] at h
  simp only at h ⊢;rw[if_pos h]
 have hpt:(xay ((bI s).drop q)).2.2=0→(xay ((bI s).drop q)).1 ∈ vs.map (·.1)→xbk true (vs.map (·.1)) ((bI s).drop q)=([],0,22):=by
  intro h h2;unfold xbk;rw[if_neg (by simp)]
  rcases htt:xay ((bI s).drop q) with ⟨name,n,e⟩
  rw[htt] at h h2
  simp only at h h2 ⊢;rw[if_neg (by omega),if_pos h2]
 rcases htx:xay ((bI s).drop q) with ⟨name,n,e⟩
 rw[htx] at hj htb htl htle hps hpb hpt
 simp only at hj htb htl htle hps hpb hpt
 have HJ:=lH hj
 obtain⟨l,hl,hlb,hmore⟩:=hI.more hvs
 have HM:=lH hmore
 have HI:=lH hI
 have c1:=hI.cs
 have c2:=hI.cd
 have hord:=hI.ord
 have HTK:=lH HT
 obtain⟨o1,o2,o3,o4,o5,o6⟩:=hord
 have o7:bs<W.heap.size:=by omega
 have o8:bd<W.heap.size:=by omega
 obtain⟨P,hP⟩:∃ P,xdU g d true (vs.map (·.1)) ((bI s).drop q)=P:=⟨_,rfl⟩
 rw[hP] at hone ⊢
 have HONE:=lH hone
 have HPS:=lH hps
 have HPB:=lH hpb
 have HPT:=lH hpt
 have HLF:=lH (show ∃ a cap,l=.slice a vs.length cap∧vs.length≤cap∧cap≤maxLen∧xea aB W a 0 (xfF vs .nil) from by
  obtain⟨l2,e1,e2,_⟩:=hI.ex
  rw[hl] at e1
  obtain rfl:=Option.some.inj e1
  have hr:=(xkB e2 (fun b h1 _ h2=>⟨h1,fun x=>by
   obtain⟨l3,f1,_,f3⟩:=hI.ex
   rw[hl] at f1
   obtain rfl:=Option.some.inj f1
   exact f3 (by rw[h2,x])⟩)).mono (S':=aB) (fun _ _=>trivial)
  rw[xaq,xeN] at hr
  obtain⟨a,cap,h1,h2,h3,h4⟩:=hr
  injection h1 with _ h1
  exact⟨a,cap,h1,h2,h3,h4⟩)
 clear hmore hI HT hj hone hps hpb hpt hP
 by_cases he:e≠0
 ·have hde:(e != 0)=true:=by simpa using he
  have hR:P=(([],.nul),n,e):=by rw[HONE.out,HPB.out he,if_pos he]
  have HE:=lH he
  clear he htb htl htle hlb
  go_enter Tryz.func284,Tryz.ntmps284
  go_wp2_with fail
  refine(HJ.out _).mono ?_
  rintro e1 w1 ⟨rfl,hb1⟩
  have HL1:=lH (HI.out.below hb1)
  clear hb1
  go_wp2_with fail
  refine bodyPost_ret (v:=.tuple #[.int .i64 ((q+n:Nat):Int),.int .i64 e]) (by simp[results,Tryz.results284,go_sem]) rfl (xkS.bad HL1.out hR HE.out)
 have he:=Decidable.not_not.1 he
 subst he
 obtain⟨a,cap,rfl,hc1,hc2,hrow⟩:=HLF.out
 have HROW:=lH hrow
 clear hrow
 go_enter Tryz.func284,Tryz.ntmps284
 go_wp2_with fail
 refine(HJ.out _).mono ?_
 rintro e1 w1 ⟨rfl,hb1⟩
 have HB1:=lH hb1
 have hl1:=(hb1.cell (p:=⟨bl,0,none⟩) o6).trans hl
 have hlt1:=Nat.lt_of_lt_of_le o6 hb1.size
 have HPL:=lH (xfJ aB a vs.length cap (xfF vs .nil) (str name) w1 (xea.keep (fun _ e _=>e) hb1.size (fun b _ hl=>hb1.block b hl) _ a 0 HROW.out) (by rw[xeN];exact Nat.le_refl _) hc1 hc2)
 rw[xqu name htb,xhJ,List.take_of_length_le (by rw[List.length_map];exact Nat.le_refl _)] at HPL
 clear hb1
 go_wp2_with fail
 refine HPL.out.mono ?_
 rintro e2 w2 ⟨⟨r,rfl,hpr⟩,hb2⟩
 have HB2:=lH (HB1.out.trans (hb2.mono HB1.out.size))
 clear hb2 HPL
 by_cases hr0:0≤r
 ·have hR:P=(([],.nul),0,22):=by rw[HONE.out,HPT.out trivial (hpr.neg.1 hr0),if_pos (by simp)]
  have HL2:=lH (HI.out.below HB2.out)
  clear hpr
  go_wp2_with fail
  refine bodyPost_ret (v:=.tuple #[.int .i64 (q:Int),.int .i64 22]) (by simp[results,Tryz.results284,go_sem]) rfl (xkS.bad (k:=0) HL2.out hR (by omega))
 have HNM:=lH (fun x=>hr0 (hpr.neg.2 x))
 replace hr0:r<0:=by omega
 clear hpr
 have HS:=lH (fun W=>xeK s { data:=#[58] } (q+n) W (by omega) (by omega))
 have h58:bI { data:=#[58] }=[58]:=rfl
 have hdd:(bI s).drop (q+n)=((bI s).drop q).drop n:=by rw[List.drop_drop]
 rw[h58,hdd] at HS
 have hpair:=HPS.out trivial HNM.out
 have hsl:=xgs [58] (((bI s).drop q).drop n)
 rw[List.length_drop,hlen] at hsl
 rcases hsg:xcR [58] (((bI s).drop q).drop n) with ⟨c,m,e3⟩
 rw[hsg] at HS hpair hsl
 unfold xlp at HS
 simp only at HS hpair hsl
 have HPAIR:=lH hpair
 have c1':=(HB2.out.cell (p:=⟨bs,0,none⟩) o7).trans c1
 have o7':=Nat.lt_of_lt_of_le o7 HB2.out.size
 clear hpair hdd h58
 go_wp2_with fail
 refine(HS.out _).mono ?_
 rintro e4 w3 ⟨rfl,hb3⟩
 have HB3:=lH (HB2.out.trans (hb3.mono HB2.out.size))
 clear hb3 c1'
 by_cases he3:e3≠0
 ·have hde:(e3 != 0)=true:=by simpa using he3
  have hR:P=(([],.nul),n+m,e3):=by rw[HONE.out,HPAIR.out,if_pos he3,if_pos he3]
  have HL2:=lH (HI.out.below HB3.out)
  have HE:=lH he3
  clear he3
  go_wp2_with fail
  refine bodyPost_ret (v:=.tuple #[.int .i64 ((q+n+m:Nat):Int),.int .i64 e3]) (by simp[results,Tryz.results284,go_sem]) rfl (by
   have:=xkS.bad (l:=(bI s).drop q) (q:=q) HL2.out hR HE.out
   rwa[← Nat.add_assoc] at this)
 have he3:=Decidable.not_not.1 he3
 subst he3
 have HV:=lH (fun(W:World) h=>HTK.out (d+1) (q+n+m) W (by omega) (by omega) (by omega) h)
 have hdd:(bI s).drop (q+n+m)=((bI s).drop q).drop (n+m):=by rw[List.drop_drop,Nat.add_assoc]
 rw[hdd] at HV
 have hR:P=((name,(xai g (d+1) (((bI s).drop q).drop (n+m))).1),n+m+(xai g (d+1) (((bI s).drop q).drop (n+m))).2.1,(xai g (d+1) (((bI s).drop q).drop (n+m))).2.2):=by
  rw[HONE.out,HPAIR.out]
  simp
 have HR:=lH hR
 clear hdd hR
 generalize xai g (d+1) (((bI s).drop q).drop (n+m))=R at HV HR
 unfold TkE at HV
 have hw:IntKind.i64.wrap ((d:Int)+1)=((d+1:Nat):Int):=by rw[IntKind.wrap_i64] <;> omega
 have c1':=(HB3.out.cell (p:=⟨bs,0,none⟩) o7).trans c1
 have c2':=(HB3.out.cell (p:=⟨bd,0,none⟩) o8).trans c2
 have o9:=Nat.lt_of_lt_of_le o7 HB3.out.size
 have o10:=Nat.lt_of_lt_of_le o8 HB3.out.size
 have HQW:=lH ((ht.below HI.out.bel).below HB3.out)
 go_wp2_with fail
 refine(HV.out _ HQW.out).mono ?_
 rintro e5 w4 ⟨⟨x,v,k,rfl,hx,h0,h1⟩,hb4⟩
 have hB4:=HB3.out.trans (hb4.mono HB3.out.size)
 have hl4:=(hB4.cell (p:=⟨bl,0,none⟩) o6).trans hl
 have hf:=xiI hx
 have hnm:bI (str name)=name:=xqu name htb
 obtain⟨v',W2,hr,cc0,cf,hls⟩:=HM.out w4 W.heap.size (name,v) [.string (str name),x] hB4 (Nat.le_refl _) ⟨x,hx.mono (fun b hb=>Nat.le_trans HB3.out.size hb),by simp only[if_true];exact⟨str name,rfl,hnm,by omega⟩⟩
 have hr:(Builtin.append_ #[157,157] 157 #[.slice a vs.length cap,.slice (some ⟨w4.heap.size,0,none⟩) 1 1]).run Tryz.prog (w4.alloc (.cells #[.string (str name),x] 404))=.ok v' W2:=hr
 have HLS:=lH hls
 have H0:=lH h0
 have H1:=lH h1
 have hlt2:bl<W2.heap.size:=World.block_lt_of_cell? _ _ cc0
 have hlt4:=Nat.lt_of_lt_of_le o6 hB4.size
 have HF:=lH (show ∃ a n c,v'=.slice a n c from by
  obtain⟨l2,e1,e2,_⟩:=hls.ex
  have:(W2.setCell ⟨bl,0,none⟩ v').cell? ⟨bl,0,none⟩=some v':=World.cell?_setCell_same _ _ _ cc0
  rw[this] at e1
  obtain rfl:=Option.some.inj e1
  obtain⟨a,cap,rfl,_⟩:=xdl e2
  exact⟨_,_,_,rfl⟩)
 have HFIN:=lH (show xkS P ((bI s).drop q) q (Ls true bs bd B bl s d w0) vs (.returned (.tuple #[.int .i64 ((q+n+m+k:Nat):Int),.int .i64 R.2.2])) (W2.setCell ⟨bl,0,none⟩ v') from by
  rw[HR.out]
  refine⟨vs++[(name,v)],n+m+k,by rw[show q+(n+m+k)=q+n+m+k by omega],hls,fun e=>?_,fun e=>by rw[h1 e]⟩
  obtain⟨rfl,b1⟩:=h0 e
  exact⟨rfl,BEq.add b1 (by rw[hlen];omega)⟩)
 clear hx hb4 hls h0 h1 hB4 c1' c2'
 obtain⟨va,vn,vc,rfl⟩:=HF.out
 rcases hf with rfl|⟨u,z,rfl⟩
 ·go_wp2_with (first|(at_builtin;refine Lib.wpList_append_run _ rfl _ _ _ _ rfl _ _ rfl rfl _ _ hr ?_)|fail)
  refine bodyPost_ret (v:=.tuple #[.int .i64 ((q+n+m+k:Nat):Int),.int .i64 R.2.2]) (by simp[results,Tryz.results284,go_sem]) rfl HFIN.out
 ·go_wp2_with (first|(at_builtin;refine Lib.wpList_append_run _ rfl _ _ _ _ rfl _ _ rfl rfl _ _ hr ?_)|fail)
  refine bodyPost_ret (v:=.tuple #[.int .i64 ((q+n+m+k:Nat):Int),.int .i64 R.2.2]) (by simp[results,Tryz.results284,go_sem]) rfl HFIN.out
def xAQ (B:Nat) (W:World):Prop:=QTab W∧6<B∧3<B
theorem QTab.low {W:World} (h:QTab W) (B:Nat) (hB:W.heap.size≤B):xAQ B W:=by
 obtain⟨h1,ev,h2,h3⟩:=h
 refine⟨⟨h1,ev,h2,h3⟩,?_,?_⟩
 ·refine Nat.lt_of_lt_of_le ?_ hB
  unfold Lib.TabIs World.var? at h1
  rw[gPow] at h1
  simp only[Option.bind_some] at h1
  rcases Nat.lt_or_ge 6 W.heap.size with h'|h'
  ·exact h'
  ·rw[Array.getElem?_eq_none h'] at h1;cases h1
 ·exact Nat.lt_of_lt_of_le (World.block_lt_of_cell? _ _ h2) hB
theorem xAQ.below {B:Nat} {W W':World} (h:xAQ B W) (hb:Below B W W'):xAQ B W':=by
 obtain⟨⟨h1,ev,h2,h3⟩,h4,h5⟩:=h
 refine⟨⟨?_,ev,(hb.cell (p:=⟨3,0,none⟩) h5).trans h2,h3⟩,h4,h5⟩
 unfold Lib.TabIs World.var? at h1 ⊢
 rw[gPow] at h1 ⊢
 simp only[Option.bind_some] at h1 ⊢
 rw[hb.block _ h4]
 exact h1
def xza (out add out':List Int):Prop:=out'.length≤(out++add).length∧((∀ b ∈ out,0≤b∧b<256)→∀ b ∈ out',0≤b∧b<256)∧(out'=out++add∨4096<out'.length∧4096<(out++add).length)
theorem xza.zero (out:List Int):xza out [] out:=⟨by simp,fun h=>h,.inl (by simp)⟩
theorem xza.trans {a b c d e:List Int} (h:xza a b c) (g:xza c d e):xza a (b++d) e:=by
 obtain⟨h1,h2,h3⟩:=h
 obtain⟨g1,g2,g3⟩:=g
 rw[List.length_append] at h1 g1
 refine⟨by simp only[List.length_append];omega,fun x=>g2 (h2 x),?_⟩
 rcases h3 with rfl|⟨h3,h4⟩
 ·rcases g3 with rfl|⟨g3,g4⟩
  ·exact .inl (by rw[List.append_assoc])
  ·exact .inr ⟨g3,by rw[← List.append_assoc];exact g4⟩
 ·rw[List.length_append] at h4
  refine .inr ⟨?_,by simp only[List.length_append];omega⟩
  rcases g3 with rfl|⟨g3,g4⟩
  ·rw[List.length_append];omega
  ·exact g3
theorem Jl.ext:∀ (l m:Jl),l.length=m.length→(∀ i,i<l.length→l.at? i=m.at? i)→l=m
 | .nil,.nil,_,_=>rfl
 | .nil,.cons _ _ _,h,_=>by simp[Jl.length] at h
 | .cons _ _ _,.nil,h,_=>by simp[Jl.length] at h
 | .cons n v l,.cons n' v' m,h,g=>by
  have g0:=g 0 (by simp[Jl.length])
  obtain⟨rfl,rfl⟩:n=n'∧v=v':=by simpa[Jl.at?] using g0
  rw[Jl.ext l m (by simpa[Jl.length] using h) (fun i hi=>by
   have:=g (i+1) (by simp[Jl.length];omega)
   simpa[Jl.at?] using this)]
def BoE (P:Prop) (w:World) (e:Ending) (w':World):Prop:=(∃ r,e=.returned (.bool r)∧(r=true↔P))∧Below w.heap.size w w'
theorem BoE.mk {P:Prop} {w w':World} {e:Ending} {r:Bool} (h:e=.returned (.bool r)) (hr:r=true↔P) (hb:Below w.heap.size w w'):BoE P w e w':=⟨⟨r,h,hr⟩,hb⟩
theorem OK.obj {B:Nat} {W W':World} (h:OK B W W') {k:Nat} {cs:Array Value} {T:TypeId} {fz:Nat × Nat} (hk:W.heap[k]?=some (.cells cs T fz)) (hB:k≠B) (hT:T≠5):W'.heap[k]?=some (.cells cs T fz) :=
 h k _ hk (fun e=>hB (by injection e)) (fun c f e=>hT (by injection e))
end Go.Proofs.YtjinnigjfopbcaaGreatDoor
namespace Go.Proofs.YtjinnigjfopbcaaGreatDoor
set_option linter.unusedVariables false
set_option linter.unusedSimpArgs false
set_option maxRecDepth 20000
def xBV (v:Js) (x:List Int):Prop:=∀ n,v=.num n→isN (xbH x)=false
theorem xow (s:List Int) (h:4096<s.length):xhn s=(.nul,0,5):=by rw[xhn,if_pos h]
def xBB (v:Js):Prop:=(∃ l,v=.arr l)∨∃ l,v=.obj l
theorem xBB.free {v:Js} (h:xBB v) (x:List Int):xBV v x:=by
 rintro n rfl
 rcases h with ⟨l,e⟩|⟨l,e⟩ <;> cases e
end Go.Proofs.YtjinnigjfopbcaaGreatDoor
namespace Go.Proofs.YtjinnigjfopbcaaGreatDoor
set_option linter.unusedVariables false
set_option linter.unusedSimpArgs false
open Go.RowKit
set_option maxRecDepth 20000
set_option maxHeartbeats 2000000
theorem xlz (g d:Nat) (names:List (List Int)) (l:List Int):xdU g d false names l=(([],(xai g (d+1) l).1),(xai g (d+1) l).2.1,(xai g (d+1) l).2.2):=by
 unfold xdU xbk
 simp
theorem xlv (g:Nat) (bs bd B bl:Nat) (s:ByteArray) (d q:Nat) (w0:World) (vs:Its) (W:World) (hI:Ls false bs bd B bl s d w0 vs W) (hvs:vs.length≤1000000) (hq:q≤s.size) (hs:s.size≤5000) (HT:xzd g s q) (hd:d≤4) (ht:QTab w0) :
  Calls Tryz.prog 283 #[.int .i64 q,.pointer (some ⟨bs,0,none⟩),.pointer (some ⟨bd,0,none⟩),.pointer (some ⟨bl,0,none⟩)] W (xkS (xdU g d false (vs.map (·.1)) ((bI s).drop q)) ((bI s).drop q) q (Ls false bs bd B bl s d w0) vs):=by
 rw[xlz]
 have HC:=lH (fun(W:World) h=>HT (d+1) q W (Nat.le_refl _) hq (by omega) h)
 generalize xai g (d+1) ((bI s).drop q)=R at HC
 unfold TkE at HC
 obtain⟨l,hl,hlb,hmore⟩:=hI.more hvs
 have HM:=lH hmore
 have HI:=lH hI
 have HQW:=lH (ht.below hI.bel)
 have c1:=hI.cs
 have c2:=hI.cd
 have hord:=hI.ord
 have hw:IntKind.i64.wrap ((d:Int)+1)=((d+1:Nat):Int):=by rw[IntKind.wrap_i64] <;> omega
 have HO:=lH hord
 obtain⟨o1,o2,o3,o4,o5,o6⟩:=hord
 have o7:bs<W.heap.size:=by omega
 have o8:bd<W.heap.size:=by omega
 unfold xkS
 clear hmore hlb hI
 go_enter Tryz.func283,Tryz.ntmps283
 go_wp2_with fail
 refine(HC.out _ HQW.out).mono ?_
 rintro e w1 ⟨⟨x,v,k,rfl,hx,h0,h1⟩,hb⟩
 have hl1:=(hb.cell (p:=⟨bl,0,none⟩) o6).trans hl
 have hf:=xiI hx
 obtain⟨v',W2,hr,c0,cf,hls⟩:=HM.out w1 W.heap.size ([],v) [x] hb (Nat.le_refl _) ⟨x,hx,by simp⟩
 have hr:(Builtin.append_ #[397,397] 397 #[l,.slice (some ⟨w1.heap.size,0,none⟩) 1 1]).run Tryz.prog (w1.alloc (.cells #[x] 20))=.ok v' W2:=hr
 have HLS:=lH hls
 have H0:=lH h0
 have H1:=lH h1
 have hlt2:bl<W2.heap.size:=World.block_lt_of_cell? _ _ c0
 have HF:=lH (show ∃ a n c,v'=.slice a n c from by
  obtain⟨l2,e1,e2,_⟩:=hls.ex
  have:(W2.setCell ⟨bl,0,none⟩ v').cell? ⟨bl,0,none⟩=some v':=World.cell?_setCell_same _ _ _ c0
  rw[this] at e1
  obtain rfl:=Option.some.inj e1
  obtain⟨a,cap,rfl,_⟩:=xdl e2
  exact⟨_,_,_,rfl⟩)
 clear hx hb hls h0 h1
 obtain⟨va,vn,vc,rfl⟩:=HF.out
 rcases hf with rfl|⟨u,z,rfl⟩
 ·go_wp2_with (first|(at_builtin;refine Lib.wpList_append_run _ rfl _ _ _ _ rfl _ _ rfl rfl _ _ hr ?_)|fail)
  refine bodyPost_ret (v:=.tuple #[.int .i64 ((q+k:Nat):Int),.int .i64 R.2.2]) (by simp[results,Tryz.results283,go_sem]) rfl ⟨vs++[([],v)],k,rfl,HLS.out,fun e=>⟨by rw[(H0.out e).1],(H0.out e).2⟩,H1.out⟩
 ·go_wp2_with (first|(at_builtin;refine Lib.wpList_append_run _ rfl _ _ _ _ rfl _ _ rfl rfl _ _ hr ?_)|fail)
  refine bodyPost_ret (v:=.tuple #[.int .i64 ((q+k:Nat):Int),.int .i64 R.2.2]) (by simp[results,Tryz.results283,go_sem]) rfl ⟨vs++[([],v)],k,rfl,HLS.out,fun e=>⟨by rw[(H0.out e).1],(H0.out e).2⟩,H1.out⟩
end Go.Proofs.YtjinnigjfopbcaaGreatDoor
namespace Go.Proofs.YtjinnigjfopbcaaGreatDoor
set_option linter.unusedVariables false
set_option linter.unusedSimpArgs false
open Go.RowKit
set_option maxRecDepth 20000
set_option maxHeartbeats 4000000
def xby (F d:Nat) (ob:Bool) (b:Int) (t:List Int):Jl × Nat × Int :=
 if 4<d then (.nil,0,20) else if xbH (t.drop (xaa t))=b+2 then (.nil,xaa t+2,0) else
 ((xaA F d ob (b+2) [] 0 (t.drop (xaa t))).1,xaa t+1+(xaA F d ob (b+2) [] 0 (t.drop (xaa t))).2.1,(xaA F d ob (b+2) [] 0 (t.drop (xaa t))).2.2)
def xdr (R:Jl × Nat × Int) (l:List Int) (p:Nat) (I:Its→World→Prop) (e:Ending) (W':World):Prop :=
 ∃ vs k,e=.returned (.tuple #[.int .i64 ((p+k:Nat):Int),.int .i64 R.2.2])∧I vs W'∧(R.2.2=0→xfF vs .nil=R.1∧BEq l R.2.1 k)∧(R.2.2≠0→k=R.2.1)
def xss (R:Jl × Nat × Int) (f d:Nat) (ob:Bool) (fin:Int) (vs:Its) (l:List Int) (p q:Nat):Prop :=
 R.2.2=(xaA f d ob fin (vs.map (·.1)) vs.length l).2.2∧p+R.2.1=q+(xaA f d ob fin (vs.map (·.1)) vs.length l).2.1∧(R.2.2=0→R.1=xfF vs (xaA f d ob fin (vs.map (·.1)) vs.length l).1)
theorem xgb (fin:Int) (l:List Int) (h:fin≠-1):([fin] <+: l)↔xbH l=fin:=by
 cases l with
 | nil=>simp[xbH];omega
 | cons b t =>
  rw[List.cons_prefix_cons]
  simp only[List.nil_prefix,and_true]
  exact eq_comm
theorem xyv (fin:Int) (l:List Int) (n k:Nat) (h:BEq l n k):xcR [44,fin] (l.drop k)=match l.drop (n+xaa (l.drop n)) with
  | []=>(0,n+xaa (l.drop n) - k,3)
  | c :: t=>if c=44∨c=fin then (c,n+xaa (l.drop n) - k+1+xaa t,0) else (0,n+xaa (l.drop n) - k,4):=by
 obtain⟨h1,h2,h3⟩:=h
 unfold xcR
 rw[List.drop_drop,h3,show xaa (l.drop k)=n+xaa (l.drop n) - k by omega]
 cases l.drop (n+xaa (l.drop n)) with
 | nil=>rfl
 | cons c t=>simp only[List.mem_cons,List.not_mem_nil,or_false]
theorem xhb:∀ l:List Int,xaa (l.drop (xaa l))=0
 | []=>rfl
 | b :: t=>by
  rw[xaa]
  by_cases h:isB b
  ·rw[if_pos h,List.drop_succ_cons];exact xhb t
  ·rw[if_neg h,List.drop_zero,xaa,if_neg h]
theorem xeW {R:Jl × Nat × Int} {f d:Nat} {ob:Bool} {fin:Int} {vs:Its} {l:List Int} {p q:Nat} {nv:List Int × Js} {n k:Nat} (h:xss R (f+1) d ob fin vs l p q) (hk:¬ (l≠[]∧64≤vs.length))
  (h1:xdU f d ob (vs.map (·.1)) l=(nv,n,0)) (hb:BEq l n k) (hf:fin≠44) (hf2:0≤fin) :
  let S:=xcR [44,fin] (l.drop k)
  (S.1=44→S.2.2=0∧l.drop (k+S.2.1)=l.drop (k+S.2.1)∧xss R f d ob fin (vs++[nv]) (l.drop (k+S.2.1)) p (q+(k+S.2.1))) ∧
  (S.1≠44→R.2.2=S.2.2∧(S.2.2≠0→p+R.2.1=q+(k+S.2.1))∧(S.2.2=0→R.1=xfF (vs++[nv]) .nil∧∃ m,p+R.2.1=q+m∧BEq l m (k+S.2.1))):=by
 obtain⟨a1,a2,a3⟩:=h
 rw[xd7,if_neg hk,h1] at a1 a2 a3
 simp only[ne_eq,not_true_eq_false,if_false] at a1 a2 a3
 obtain⟨m,hm⟩:∃ m,n+xaa (l.drop n)=m:=⟨_,rfl⟩
 have hs:=xyv fin l n k hb
 obtain⟨b1,b2,b3⟩:=hb
 rw[hm] at hs a1 a2 a3
 have hkm:k≤m:=by omega
 have hml:m≤l.length:=by
  have:=xb7 (l.drop n)
  rw[List.length_drop] at this
  omega
 intro S
 have hS:S=xcR [44,fin] (l.drop k):=rfl
 rw[hs] at hS
 unfold xrZ at a1 a2 a3
 cases hd:l.drop m with
 | nil =>
  rw[hd] at hS a1 a2 a3
  simp only at hS
  rw[if_pos rfl] at a1 a2 a3
  rw[hS]
  refine⟨fun e=>by simp at e,fun _=>⟨a1,fun _=>by rw[a2];simp only;omega,fun e=>by simp at e⟩⟩
 | cons c t =>
  have hdt:l.drop (m+1)=t:=by rw[← List.drop_drop,hd];rfl
  have hlm:m<l.length:=by
   rcases Nat.lt_or_ge m l.length with h|h
   ·exact h
   ·rw[List.drop_of_length_le h] at hd;cases hd
  have htl:t.length=l.length - m - 1:=by rw[← hdt,List.length_drop];omega
  rw[hd] at hS a1 a2 a3
  simp only at hS
  have h0:xbH (c :: t)=c:=rfl
  rw[if_neg (by simp),h0,hdt] at a1 a2 a3
  by_cases hc:c=fin
  ·rw[if_pos (.inr hc)] at hS
   rw[if_pos hc] at a1 a2 a3
   rw[hS]
   refine⟨fun e=>absurd (hc.symm.trans e) hf,fun _=>⟨a1,fun e=>absurd rfl e,fun _=>⟨by rw[a3 a1,xgF],m+1,a2,?_⟩⟩⟩
   have:=xb7 t
   refine⟨by simp only;omega,by simp only;omega,?_⟩
   simp only
   rw[show k+(m - k+1+xaa t)=m+1+xaa t by omega,← List.drop_drop,hdt]
   have:xaa (t.drop (xaa t))=0:=xhb t
   omega
  rw[if_neg hc] at a1 a2 a3
  by_cases h44:c=44
  ·rw[if_pos (.inl h44)] at hS
   rw[if_neg (by simp[h44])] at a1 a2 a3
   rw[hS]
   have hq:k+(m - k+1+xaa t)=m+1+xaa t:=by omega
   refine⟨fun _=>⟨rfl,rfl,?_⟩,fun e=>absurd h44 e⟩
   simp only
   rw[hq]
   unfold xss
   rw[List.map_append,List.length_append]
   obtain⟨n0,v0⟩:=nv
   show _=(xaA f d ob fin (vs.map (·.1)++[n0]) (vs.length+1) (l.drop (m+1+xaa t))).2.2∧_=_+(xaA f d ob fin (vs.map (·.1)++[n0]) (vs.length+1) (l.drop (m+1+xaa t))).2.1∧(_→_=xfF _ (xaA f d ob fin (vs.map (·.1)++[n0]) (vs.length+1) (l.drop (m+1+xaa t))).1)
   simp only at a1 a2 a3
   generalize xaA f d ob fin (vs.map (·.1)++[n0]) (vs.length+1) (l.drop (m+1+xaa t))=T at a1 a2 a3 ⊢
   by_cases hT:T.2.2≠0
   ·rw[if_pos hT] at a1 a2 a3
    refine⟨a1,by rw[a2];simp only;omega,fun e=>absurd (a1.symm.trans e) hT⟩
   ·rw[if_neg hT] at a1 a2 a3
    have hT:=Decidable.not_not.1 hT
    refine⟨by rw[hT];exact a1,by rw[a2];simp only;omega,fun e=>by rw[a3 e,xgF]⟩
  ·rw[if_neg (by omega)] at hS
   rw[if_pos h44] at a1 a2 a3
   rw[hS]
   refine⟨fun e=>by simp at e,fun _=>⟨a1,fun _=>by rw[a2];simp only;omega,fun e=>by simp at e⟩⟩
theorem xf6 {R:Jl × Nat × Int} {f d:Nat} {ob:Bool} {fin:Int} {vs:Its} {l:List Int} {p q:Nat} (h:xss R (f+1) d ob fin vs l p q) (hk:¬ (l≠[]∧64≤vs.length))
  (h1:(xdU f d ob (vs.map (·.1)) l).2.2≠0):R.2.2=(xdU f d ob (vs.map (·.1)) l).2.2∧p+R.2.1=q+(xdU f d ob (vs.map (·.1)) l).2.1:=by
 obtain⟨a1,a2,a3⟩:=h
 rw[xd7,if_neg hk,if_pos h1] at a1 a2
 exact⟨a1,a2⟩
theorem xjU {R:Jl × Nat × Int} {f d:Nat} {ob:Bool} {fin:Int} {vs:Its} {l:List Int} {p q:Nat} (h:xss R (f+1) d ob fin vs l p q) (hk:l≠[]∧64≤vs.length):R.2.2=21∧p+R.2.1=q:=by
 obtain⟨a1,a2,a3⟩:=h
 rw[xd7,if_pos hk] at a1 a2
 exact⟨a1,a2⟩
theorem xdr.fin {R:Jl × Nat × Int} {p q k:Nat} {I:Its→World→Prop} {vs:Its} {nv:List Int × Js} {T:Int × Nat × Int} {W:World} {s:ByteArray} (hpq:p≤q) (hqs:q≤s.size)
  (h:R.2.2=T.2.2∧(T.2.2≠0→p+R.2.1=q+(k+T.2.1))∧(T.2.2=0→R.1=xfF (vs++[nv]) .nil∧∃ m,p+R.2.1=q+m∧BEq ((bI s).drop q) m (k+T.2.1))) (hI:I (vs++[nv]) W) :
  ∃ vs' k',Ending.returned (.tuple #[.int .i64 ((q+k+T.2.1:Nat):Int),.int .i64 T.2.2])=.returned (.tuple #[.int .i64 ((p+k':Nat):Int),.int .i64 R.2.2])∧I vs' W∧(R.2.2=0→xfF vs' .nil=R.1∧BEq ((bI s).drop p) R.2.1 k')∧(R.2.2≠0→k'=R.2.1):=by
 obtain⟨h1,h2,h3⟩:=h
 refine⟨vs++[nv],q - p+(k+T.2.1),by rw[h1,show p+(q - p+(k+T.2.1))=q+k+T.2.1 by omega],hI,fun e=>?_,fun e=>?_⟩
 ·obtain⟨g1,m,g2,g3⟩:=h3 (h1 ▸ e)
  refine⟨g1.symm,?_⟩
  have hd:(bI s).drop q=((bI s).drop p).drop (q - p):=by rw[List.drop_drop,show p+(q - p)=q by omega]
  rw[hd] at g3
  rw[show R.2.1=q - p+m by omega]
  exact BEq.add g3 (by rw[List.length_drop,xah];omega)
 ·have:=h2 (h1 ▸ e)
  omega
theorem xiy (f d:Nat) (ob:Bool) (names:List (List Int)) (l:List Int) (h:(xdU f d ob names l).2.2=0):1≤(xdU f d ob names l).2.1:=by
 unfold xdU at h ⊢
 split at h
 ·rename_i h2;exact absurd h h2
 ·rename_i h2
  rw[if_neg h2]
  have:=((xv6 f).1 (d+1) (l.drop (xbk ob names l).2.1)).2 h
  simp only
  omega
theorem xhQ (s:ByteArray) (p d:Nat) (w:World) (fin:ByteArray) (c:Value) (hd:4<d) :
  Calls Tryz.prog 282 #[.string s,.int .i64 p,.int .i64 d,.string fin,c] w fun e w'=>e=.returned (.tuple #[.int .i64 (p:Int),.int .i64 20])∧w'=w:=by
 have e1:decide (4<(d:Int))=true:=by simp;omega
 go_enter Tryz.func282,Tryz.ntmps282
 go_wp2_with fail
 refine bodyPost_ret (v:=.tuple #[.int .i64 (p:Int),.int .i64 20]) (by simp[results,Tryz.results282,go_sem]) rfl ⟨rfl,rfl⟩
theorem xoa (F:Nat) (s:ByteArray) (p d:Nat) (w:World) (I:Its→World→Prop) (b1 b2 b3:Nat) (hIb:∀ vs W W',I vs W→Below W.heap.size W W'→I vs W')
  (HC:∀ g vs q W,2*(s.size - q)+1≤g→vs.length≤64→p<q→I vs W→q≤s.size→Calls Tryz.prog 283 #[.int .i64 q,.pointer (some ⟨b1,0,none⟩),.pointer (some ⟨b2,0,none⟩),.pointer (some ⟨b3,0,none⟩)] W (xkS (xdU g d false (vs.map (·.1)) ((bI s).drop q)) ((bI s).drop q) q I vs))
  (b:Int) (t:List Int) (hp:(bI s).drop p=b :: t) (hs:s.size≤5000) (hF:2*(s.size - p)≤F) (hI:I [] w) (hb:b+2=93) :
  Calls Tryz.prog 282 #[.string s,.int .i64 p,.int .i64 d,.string { data:=#[93] },.func (.func 283) #[] #[.pointer (some ⟨b1,0,none⟩),.pointer (some ⟨b2,0,none⟩),.pointer (some ⟨b3,0,none⟩)]] w fun e w'=>xdr (xby F d false b t) ((bI s).drop p) p I e w':=by
 have hlt:p<s.size:=by
  rcases Nat.lt_or_ge p s.size with h|h
  ·exact h
  ·rw[List.drop_of_length_le (by rw[xah];omega)] at hp;cases hp
 have hdt:(bI s).drop (p+1)=t:=by rw[← List.drop_drop,hp];rfl
 have htl:t.length=s.size - p - 1:=by rw[← hdt,List.length_drop,xah];omega
 have hbl:=xb7 t
 have hll:((bI s).drop p).length=s.size - p:=by rw[List.length_drop,xah]
 have hpd:∀ m,(bI s).drop (p+m)=((bI s).drop p).drop m:=fun m=>by rw[List.drop_drop]
 obtain⟨R,hR⟩:∃ R,xby F d false b t=R:=⟨_,rfl⟩
 rw[hR]
 unfold xby at hR
 have HI:=lH hI
 have HC:=lH HC
 have HIB:=lH hIb
 unfold xdr
 clear hI hIb
 by_cases hd:4<d
 ·rw[if_pos hd] at hR
  subst hR
  have e1:decide (4<(d:Int))=true:=by simp;omega
  clear hp hdt hpd
  go_enter Tryz.func282,Tryz.ntmps282
  go_wp2_with fail
  refine bodyPost_ret (v:=.tuple #[.int .i64 (p:Int),.int .i64 20]) (by simp[results,Tryz.results282,go_sem]) rfl ⟨[],0,rfl,HI.out,fun e=>by simp at e,fun _=>rfl⟩
 rw[if_neg hd] at hR
 have e1:decide (4<(d:Int))=false:=by simp;omega
 have HP:=lH (fun W=>xdO s (p+1) W (by omega) (by omega))
 rw[hdt] at HP
 obtain⟨q0,hq0⟩:∃ q0,p+1+xaa t=q0:=⟨_,rfl⟩
 rw[hq0] at HP
 have hd0:(bI s).drop q0=t.drop (xaa t):=by rw[← hdt,List.drop_drop,hdt,hq0]
 have HX:=lH (fun W=>xgp (s.extract q0 s.size) { data:=#[93] } W)
 have hfin:bI { data:=#[93] }=[93]:=rfl
 rw[xtd s q0 (by omega),hfin,hd0] at HX
 have hw1:IntKind.i64.wrap ((p:Int)+1)=((p+1:Nat):Int):=by rw[IntKind.wrap_i64] <;> omega
 have n1:(q0:Int)≤(s.size:Int):=by omega
 by_cases hh:xbH (t.drop (xaa t))=b+2
 ·rw[if_pos hh] at hR
  subst hR
  have hpr:[93] <+: t.drop (xaa t):=(xgb 93 _ (by omega)).2 (by rw[hh,hb])
  rw[decide_eq_true hpr] at HX
  have hq1:q0<s.size:=by
   rcases Nat.lt_or_ge q0 s.size with h|h
   ·exact h
   ·rw[← hd0,List.drop_of_length_le (by rw[xah];omega)] at hh;simp[xbH] at hh;omega
  have hw2:IntKind.i64.wrap ((q0:Int)+1)=((q0+1:Nat):Int):=by rw[IntKind.wrap_i64] <;> omega
  have HQ:=lH (show q0+1=p+(xaa t+2) by omega)
  have HLL:=lH hll
  clear hp hdt hpd hd0 hpr hh hd hll
  go_enter Tryz.func282,Tryz.ntmps282
  go_wp2_with fail
  refine(HP.out _).mono ?_
  rintro e w1 ⟨rfl,hb1⟩
  have HI1:=lH (HIB.out _ _ _ HI.out hb1)
  clear hb1
  go_wp2_with fail
  refine(HX.out _).mono ?_
  rintro e w2 ⟨rfl,rfl⟩
  go_wp2_with fail
  refine bodyPost_ret (v:=.tuple #[.int .i64 ((q0+1:Nat):Int),.int .i64 0]) (by simp[results,Tryz.results282,go_sem]) rfl ⟨[],xaa t+2,by rw[HQ.out],HI1.out,fun _=>⟨rfl,BEq.same (by show xaa t+2≤_;rw[HLL.out];omega)⟩,fun e=>absurd rfl e⟩
 rw[if_neg hh] at hR
 have hpr:¬ [93] <+: t.drop (xaa t):=fun x=>hh (by rw[hb];exact(xgb 93 _ (by omega)).1 x)
 rw[decide_eq_false hpr] at HX
 have hprom:xss R F d false 93 [] ((bI s).drop q0) p q0:=by
  rw[hb] at hR
  unfold xss
  rw[hd0,← hR]
  refine⟨rfl,by simp only[List.map_nil,List.length_nil];omega,fun _=>rfl⟩
 have HPR:=lH hprom
 have HPD:=lH hpd
 have HLL:=lH hll
 have h44:bI ({ data:=#[44,93] }:ByteArray)=[44,93]:=rfl
 clear hp hdt hpd hd0 hpr hh hd hR hprom hll htl hbl
 go_enter Tryz.func282,Tryz.ntmps282
 go_wp2_with fail
 refine(HP.out _).mono ?_
 rintro e w1 ⟨rfl,hb1⟩
 have HI1:=lH (HIB.out _ _ _ HI.out hb1)
 clear hb1
 go_wp2_with fail
 refine(HX.out _).mono ?_
 rintro e w2 ⟨rfl,rfl⟩
 go_wp2_with fail
 go_loopw [1,12] (fun z1 z2 wr=>∃ (q f:Nat) (vs:Its),z1=.int .i64 q∧z2=.int .i64 vs.length∧p<q∧q≤s.size∧vs.length≤64∧2*(s.size - q)+2≤f∧Hid (I vs wr)∧Hid (xss R f d false 93 vs ((bI s).drop q) p q)) (fun z1 _ _=>s.size - (intOf z1).toNat)
 case atStart=>exact⟨q0,F,[],rfl,rfl,by omega,by omega,by simp,by omega,HI1,HPR⟩
 case round =>
  obtain⟨q,f,vs,rfl,rfl,hpq,hq,hv64,hf,HIV,HPM⟩:=hrel
  obtain⟨g,rfl⟩:∃ g,f=g+1:=⟨f - 1,by omega⟩
  by_cases hm:vs.length=64∧q<s.size
  ·have em:((vs.length:Int) == 64)=true:=by simp;omega
   have e2:(q:Int)<(s.size:Int):=by omega
   have hne:(bI s).drop q≠[]:=fun e=>by
    have:=congrArg List.length e
    rw[List.length_drop,xah] at this
    simp at this;omega
   have hpm:=lH (xjU HPM.out ⟨hne,by omega⟩)
   clear hne hm
   go_wp2_with fail
   refine bodyPost_ret (v:=.tuple #[.int .i64 (q:Int),.int .i64 21]) (by simp[results,Tryz.results282,go_sem]) rfl ⟨vs,R.2.1,by rw[hpm.out.1,hpm.out.2],HIV.out,fun(e:R.2.2=0)=>absurd (hpm.out.1.symm.trans e) (by decide),fun _=>rfl⟩
  have hk:¬ ((bI s).drop q≠[]∧64≤vs.length):=by
   rintro⟨h1,h2⟩
   refine hm ⟨by omega,?_⟩
   rcases Nat.lt_or_ge q s.size with h|h
   ·exact h
   ·exact absurd (List.drop_of_length_le (by rw[xah];omega)) h1
  by_cases h64:vs.length=64
  ·have em:((vs.length:Int) == 64)=true:=by simp;omega
   have e2:¬ (q:Int)<(s.size:Int):=by omega
   have HCC:=lH (HC.out g vs q wr (by omega) hv64 hpq HIV.out hq)
   have hpos:=xiy g d false (vs.map (·.1)) ((bI s).drop q)
   have hbad:=xf6 HPM.out hk
   have hgood:=fun nv n k (h1:xdU g d false (vs.map (·.1)) ((bI s).drop q)=(nv,n,0)) (hb:BEq ((bI s).drop q) n k)=>xeW HPM.out hk h1 hb (by omega) (by omega)
   have hlq:((bI s).drop q).length=s.size - q:=by rw[List.length_drop,xah]
   rcases hone:xdU g d false (vs.map (·.1)) ((bI s).drop q) with ⟨nv,n,e1⟩
   rw[hone] at HCC hpos hbad
   have HG:=lH (hgood nv n)
   rw[hone] at HG
   have HBAD:=lH hbad
   have HPOS:=lH hpos
   have HLQ:=lH hlq
   have HNM:=lH hm
   unfold xkS at HCC
   clear hgood hbad hpos hone hlq hk hm
   go_wp2_with fail
   refine HCC.out.mono ?_
   rintro e wa ⟨vs',k,rfl,hI',h0,h1⟩
   have HIA:=lH hI'
   have H0:=lH h0
   have H1:=lH h1
   clear hI' h0 h1 HCC
   by_cases he1:e1≠0
   ·have hde:(e1 != 0)=true:=by simpa using he1
    have hfin:=HBAD.out he1
    have hkn:=H1.out he1
    try simp only at hfin hkn
    subst hkn
    have HFI:=lH hfin
    have HE1:=lH he1
    clear hfin he1
    go_wp2_with fail
    refine bodyPost_ret (v:=.tuple #[.int .i64 ((q+k:Nat):Int),.int .i64 e1]) (by simp[results,Tryz.results282,go_sem]) rfl ⟨vs',R.2.1,by rw[HFI.out.1,HFI.out.2],HIA.out,fun e=>absurd (HFI.out.1.symm.trans e) HE1.out,fun _=>rfl⟩
   have he1:=Decidable.not_not.1 he1
   subst he1
   obtain⟨rfl,hbeq⟩:=H0.out rfl
   have hn1:=HPOS.out rfl
   try simp only at hbeq hn1
   have HST:=lH (HG.out k rfl hbeq)
   have hkl:n≤k∧k≤s.size - q:=⟨hbeq.1,by rw[← HLQ.out];exact hbeq.2.1⟩
   have hv63:vs.length<64:=by
    rcases Nat.lt_or_ge vs.length 64 with h|h
    ·exact h
    ·exact absurd (⟨by omega,by omega⟩:vs.length=64∧q<s.size) HNM.out
   have HSG:=lH (fun W=>xeK s { data:=#[44,93] } (q+k) W (by omega) (by omega))
   rw[h44,show (bI s).drop (q+k)=((bI s).drop q).drop k by rw[List.drop_drop]] at HSG
   have hsl:=xgs [44,93] (((bI s).drop q).drop k)
   rw[List.length_drop,HLQ.out] at hsl
   generalize xcR [44,93] (((bI s).drop q).drop k)=T at HSG HST hsl
   unfold xlp at HSG
   clear H0 H1 HG HBAD HPOS hbeq
   go_wp2_with fail
   refine(HSG.out _).mono ?_
   rintro e wb ⟨rfl,hb2⟩
   have HIB2:=lH (HIB.out _ _ _ HIA.out hb2)
   clear hb2
   by_cases h4:T.1=44
   ·have hd4:(T.1 != 44)=false:=by simpa using h4
    have hst:=HST.out.1 h4
    have HPM2:=lH hst.2.2
    clear hst h4
    go_wp2_with fail
    go_roundw
    case rel=>exact⟨q+k+T.2.1,g,vs++[nv],rfl,by rw[List.length_append];go_num,by omega,by omega,by rw[List.length_append];simp only[List.length_singleton];omega,by omega,HIB2,lH (by
      have:=HPM2.out
      rwa[List.drop_drop,← Nat.add_assoc] at this)⟩
    case measure=>simp[intOf];omega
   ·have hd4:(T.1 != 44)=true:=by simpa using h4
    have hst:=HST.out.2 h4
    have HPM2:=lH hst
    clear hst h4
    go_wp2_with fail
    refine bodyPost_ret (v:=.tuple #[.int .i64 ((q+k+T.2.1:Nat):Int),.int .i64 T.2.2]) (by simp[results,Tryz.results282,go_sem]) rfl (xdr.fin (Nat.le_of_lt hpq) hq HPM2.out HIB2.out)
  ·have em:((vs.length:Int) == 64)=false:=by rw[beq_eq_false_iff_ne];omega
   have HCC:=lH (HC.out g vs q wr (by omega) hv64 hpq HIV.out hq)
   have hpos:=xiy g d false (vs.map (·.1)) ((bI s).drop q)
   have hbad:=xf6 HPM.out hk
   have hgood:=fun nv n k (h1:xdU g d false (vs.map (·.1)) ((bI s).drop q)=(nv,n,0)) (hb:BEq ((bI s).drop q) n k)=>xeW HPM.out hk h1 hb (by omega) (by omega)
   have hlq:((bI s).drop q).length=s.size - q:=by rw[List.length_drop,xah]
   rcases hone:xdU g d false (vs.map (·.1)) ((bI s).drop q) with ⟨nv,n,e1⟩
   rw[hone] at HCC hpos hbad
   have HG:=lH (hgood nv n)
   rw[hone] at HG
   have HBAD:=lH hbad
   have HPOS:=lH hpos
   have HLQ:=lH hlq
   have HNM:=lH hm
   unfold xkS at HCC
   clear hgood hbad hpos hone hlq hk hm
   go_wp2_with fail
   refine HCC.out.mono ?_
   rintro e wa ⟨vs',k,rfl,hI',h0,h1⟩
   have HIA:=lH hI'
   have H0:=lH h0
   have H1:=lH h1
   clear hI' h0 h1 HCC
   by_cases he1:e1≠0
   ·have hde:(e1 != 0)=true:=by simpa using he1
    have hfin:=HBAD.out he1
    have hkn:=H1.out he1
    try simp only at hfin hkn
    subst hkn
    have HFI:=lH hfin
    have HE1:=lH he1
    clear hfin he1
    go_wp2_with fail
    refine bodyPost_ret (v:=.tuple #[.int .i64 ((q+k:Nat):Int),.int .i64 e1]) (by simp[results,Tryz.results282,go_sem]) rfl ⟨vs',R.2.1,by rw[HFI.out.1,HFI.out.2],HIA.out,fun e=>absurd (HFI.out.1.symm.trans e) HE1.out,fun _=>rfl⟩
   have he1:=Decidable.not_not.1 he1
   subst he1
   obtain⟨rfl,hbeq⟩:=H0.out rfl
   have hn1:=HPOS.out rfl
   try simp only at hbeq hn1
   have HST:=lH (HG.out k rfl hbeq)
   have hkl:n≤k∧k≤s.size - q:=⟨hbeq.1,by rw[← HLQ.out];exact hbeq.2.1⟩
   have hv63:vs.length<64:=by
    rcases Nat.lt_or_ge vs.length 64 with h|h
    ·exact h
    ·exact absurd (⟨by omega,by omega⟩:vs.length=64∧q<s.size) HNM.out
   have HSG:=lH (fun W=>xeK s { data:=#[44,93] } (q+k) W (by omega) (by omega))
   rw[h44,show (bI s).drop (q+k)=((bI s).drop q).drop k by rw[List.drop_drop]] at HSG
   have hsl:=xgs [44,93] (((bI s).drop q).drop k)
   rw[List.length_drop,HLQ.out] at hsl
   generalize xcR [44,93] (((bI s).drop q).drop k)=T at HSG HST hsl
   unfold xlp at HSG
   clear H0 H1 HG HBAD HPOS hbeq
   go_wp2_with fail
   refine(HSG.out _).mono ?_
   rintro e wb ⟨rfl,hb2⟩
   have HIB2:=lH (HIB.out _ _ _ HIA.out hb2)
   clear hb2
   by_cases h4:T.1=44
   ·have hd4:(T.1 != 44)=false:=by simpa using h4
    have hst:=HST.out.1 h4
    have HPM2:=lH hst.2.2
    clear hst h4
    go_wp2_with fail
    go_roundw
    case rel=>exact⟨q+k+T.2.1,g,vs++[nv],rfl,by rw[List.length_append];go_num,by omega,by omega,by rw[List.length_append];simp only[List.length_singleton];omega,by omega,HIB2,lH (by
      have:=HPM2.out
      rwa[List.drop_drop,← Nat.add_assoc] at this)⟩
    case measure=>simp[intOf];omega
   ·have hd4:(T.1 != 44)=true:=by simpa using h4
    have hst:=HST.out.2 h4
    have HPM2:=lH hst
    clear hst h4
    go_wp2_with fail
    refine bodyPost_ret (v:=.tuple #[.int .i64 ((q+k+T.2.1:Nat):Int),.int .i64 T.2.2]) (by simp[results,Tryz.results282,go_sem]) rfl (xdr.fin (Nat.le_of_lt hpq) hq HPM2.out HIB2.out)
theorem xsx (F:Nat) (s:ByteArray) (p d:Nat) (w:World) (I:Its→World→Prop) (b1 b2 b3:Nat) (hIb:∀ vs W W',I vs W→Below W.heap.size W W'→I vs W')
  (HC:∀ g vs q W,2*(s.size - q)+1≤g→vs.length≤64→p<q→I vs W→q≤s.size→Calls Tryz.prog 284 #[.int .i64 q,.pointer (some ⟨b1,0,none⟩),.pointer (some ⟨b2,0,none⟩),.pointer (some ⟨b3,0,none⟩)] W (xkS (xdU g d true (vs.map (·.1)) ((bI s).drop q)) ((bI s).drop q) q I vs))
  (b:Int) (t:List Int) (hp:(bI s).drop p=b :: t) (hs:s.size≤5000) (hF:2*(s.size - p)≤F) (hI:I [] w) (hb:b+2=125) :
  Calls Tryz.prog 282 #[.string s,.int .i64 p,.int .i64 d,.string { data:=#[125] },.func (.func 284) #[] #[.pointer (some ⟨b1,0,none⟩),.pointer (some ⟨b2,0,none⟩),.pointer (some ⟨b3,0,none⟩)]] w fun e w'=>xdr (xby F d true b t) ((bI s).drop p) p I e w':=by
 have hlt:p<s.size:=by
  rcases Nat.lt_or_ge p s.size with h|h
  ·exact h
  ·rw[List.drop_of_length_le (by rw[xah];omega)] at hp;cases hp
 have hdt:(bI s).drop (p+1)=t:=by rw[← List.drop_drop,hp];rfl
 have htl:t.length=s.size - p - 1:=by rw[← hdt,List.length_drop,xah];omega
 have hbl:=xb7 t
 have hll:((bI s).drop p).length=s.size - p:=by rw[List.length_drop,xah]
 have hpd:∀ m,(bI s).drop (p+m)=((bI s).drop p).drop m:=fun m=>by rw[List.drop_drop]
 obtain⟨R,hR⟩:∃ R,xby F d true b t=R:=⟨_,rfl⟩
 rw[hR]
 unfold xby at hR
 have HI:=lH hI
 have HC:=lH HC
 have HIB:=lH hIb
 unfold xdr
 clear hI hIb
 by_cases hd:4<d
 ·rw[if_pos hd] at hR
  subst hR
  have e1:decide (4<(d:Int))=true:=by simp;omega
  clear hp hdt hpd
  go_enter Tryz.func282,Tryz.ntmps282
  go_wp2_with fail
  refine bodyPost_ret (v:=.tuple #[.int .i64 (p:Int),.int .i64 20]) (by simp[results,Tryz.results282,go_sem]) rfl ⟨[],0,rfl,HI.out,fun e=>by simp at e,fun _=>rfl⟩
 rw[if_neg hd] at hR
 have e1:decide (4<(d:Int))=false:=by simp;omega
 have HP:=lH (fun W=>xdO s (p+1) W (by omega) (by omega))
 rw[hdt] at HP
 obtain⟨q0,hq0⟩:∃ q0,p+1+xaa t=q0:=⟨_,rfl⟩
 rw[hq0] at HP
 have hd0:(bI s).drop q0=t.drop (xaa t):=by rw[← hdt,List.drop_drop,hdt,hq0]
 have HX:=lH (fun W=>xgp (s.extract q0 s.size) { data:=#[125] } W)
 have hfin:bI { data:=#[125] }=[125]:=rfl
 rw[xtd s q0 (by omega),hfin,hd0] at HX
 have hw1:IntKind.i64.wrap ((p:Int)+1)=((p+1:Nat):Int):=by rw[IntKind.wrap_i64] <;> omega
 have n1:(q0:Int)≤(s.size:Int):=by omega
 by_cases hh:xbH (t.drop (xaa t))=b+2
 ·rw[if_pos hh] at hR
  subst hR
  have hpr:[125] <+: t.drop (xaa t):=(xgb 125 _ (by omega)).2 (by rw[hh,hb])
  rw[decide_eq_true hpr] at HX
  have hq1:q0<s.size:=by
   rcases Nat.lt_or_ge q0 s.size with h|h
   ·exact h
   ·rw[← hd0,List.drop_of_length_le (by rw[xah];omega)] at hh;simp[xbH] at hh;omega
  have hw2:IntKind.i64.wrap ((q0:Int)+1)=((q0+1:Nat):Int):=by rw[IntKind.wrap_i64] <;> omega
  have HQ:=lH (show q0+1=p+(xaa t+2) by omega)
  have HLL:=lH hll
  clear hp hdt hpd hd0 hpr hh hd hll
  go_enter Tryz.func282,Tryz.ntmps282
  go_wp2_with fail
  refine(HP.out _).mono ?_
  rintro e w1 ⟨rfl,hb1⟩
  have HI1:=lH (HIB.out _ _ _ HI.out hb1)
  clear hb1
  go_wp2_with fail
  refine(HX.out _).mono ?_
  rintro e w2 ⟨rfl,rfl⟩
  go_wp2_with fail
  refine bodyPost_ret (v:=.tuple #[.int .i64 ((q0+1:Nat):Int),.int .i64 0]) (by simp[results,Tryz.results282,go_sem]) rfl ⟨[],xaa t+2,by rw[HQ.out],HI1.out,fun _=>⟨rfl,BEq.same (by show xaa t+2≤_;rw[HLL.out];omega)⟩,fun e=>absurd rfl e⟩
 rw[if_neg hh] at hR
 have hpr:¬ [125] <+: t.drop (xaa t):=fun x=>hh (by rw[hb];exact(xgb 125 _ (by omega)).1 x)
 rw[decide_eq_false hpr] at HX
 have hprom:xss R F d true 125 [] ((bI s).drop q0) p q0:=by
  rw[hb] at hR
  unfold xss
  rw[hd0,← hR]
  refine⟨rfl,by simp only[List.map_nil,List.length_nil];omega,fun _=>rfl⟩
 have HPR:=lH hprom
 have HPD:=lH hpd
 have HLL:=lH hll
 have h44:bI ({ data:=#[44,125] }:ByteArray)=[44,125]:=rfl
 clear hp hdt hpd hd0 hpr hh hd hR hprom hll htl hbl
 go_enter Tryz.func282,Tryz.ntmps282
 go_wp2_with fail
 refine(HP.out _).mono ?_
 rintro e w1 ⟨rfl,hb1⟩
 have HI1:=lH (HIB.out _ _ _ HI.out hb1)
 clear hb1
 go_wp2_with fail
 refine(HX.out _).mono ?_
 rintro e w2 ⟨rfl,rfl⟩
 go_wp2_with fail
 go_loopw [1,12] (fun z1 z2 wr=>∃ (q f:Nat) (vs:Its),z1=.int .i64 q∧z2=.int .i64 vs.length∧p<q∧q≤s.size∧vs.length≤64∧2*(s.size - q)+2≤f∧Hid (I vs wr)∧Hid (xss R f d true 125 vs ((bI s).drop q) p q)) (fun z1 _ _=>s.size - (intOf z1).toNat)
 case atStart=>exact⟨q0,F,[],rfl,rfl,by omega,by omega,by simp,by omega,HI1,HPR⟩
 case round =>
  obtain⟨q,f,vs,rfl,rfl,hpq,hq,hv64,hf,HIV,HPM⟩:=hrel
  obtain⟨g,rfl⟩:∃ g,f=g+1:=⟨f - 1,by omega⟩
  by_cases hm:vs.length=64∧q<s.size
  ·have em:((vs.length:Int) == 64)=true:=by simp;omega
   have e2:(q:Int)<(s.size:Int):=by omega
   have hne:(bI s).drop q≠[]:=fun e=>by
    have:=congrArg List.length e
    rw[List.length_drop,xah] at this
    simp at this;omega
   have hpm:=lH (xjU HPM.out ⟨hne,by omega⟩)
   clear hne hm
   go_wp2_with fail
   refine bodyPost_ret (v:=.tuple #[.int .i64 (q:Int),.int .i64 21]) (by simp[results,Tryz.results282,go_sem]) rfl ⟨vs,R.2.1,by rw[hpm.out.1,hpm.out.2],HIV.out,fun(e:R.2.2=0)=>absurd (hpm.out.1.symm.trans e) (by decide),fun _=>rfl⟩
  have hk:¬ ((bI s).drop q≠[]∧64≤vs.length):=by
   rintro⟨h1,h2⟩
   refine hm ⟨by omega,?_⟩
   rcases Nat.lt_or_ge q s.size with h|h
   ·exact h
   ·exact absurd (List.drop_of_length_le (by rw[xah];omega)) h1
  by_cases h64:vs.length=64
  ·have em:((vs.length:Int) == 64)=true:=by simp;omega
   have e2:¬ (q:Int)<(s.size:Int):=by omega
   have HCC:=lH (HC.out g vs q wr (by omega) hv64 hpq HIV.out hq)
   have hpos:=xiy g d true (vs.map (·.1)) ((bI s).drop q)
   have hbad:=xf6 HPM.out hk
   have hgood:=fun nv n k (h1:xdU g d true (vs.map (·.1)) ((bI s).drop q)=(nv,n,0)) (hb:BEq ((bI s).drop q) n k)=>xeW HPM.out hk h1 hb (by omega) (by omega)
   have hlq:((bI s).drop q).length=s.size - q:=by rw[List.length_drop,xah]
   rcases hone:xdU g d true (vs.map (·.1)) ((bI s).drop q) with ⟨nv,n,e1⟩
   rw[hone] at HCC hpos hbad
   have HG:=lH (hgood nv n)
   rw[hone] at HG
   have HBAD:=lH hbad
   have HPOS:=lH hpos
   have HLQ:=lH hlq
   have HNM:=lH hm
   unfold xkS at HCC
   clear hgood hbad hpos hone hlq hk hm
   go_wp2_with fail
   refine HCC.out.mono ?_
   rintro e wa ⟨vs',k,rfl,hI',h0,h1⟩
   have HIA:=lH hI'
   have H0:=lH h0
   have H1:=lH h1
   clear hI' h0 h1 HCC
   by_cases he1:e1≠0
   ·have hde:(e1 != 0)=true:=by simpa using he1
    have hfin:=HBAD.out he1
    have hkn:=H1.out he1
    try simp only at hfin hkn
    subst hkn
    have HFI:=lH hfin
    have HE1:=lH he1
    clear hfin he1
    go_wp2_with fail
    refine bodyPost_ret (v:=.tuple #[.int .i64 ((q+k:Nat):Int),.int .i64 e1]) (by simp[results,Tryz.results282,go_sem]) rfl ⟨vs',R.2.1,by rw[HFI.out.1,HFI.out.2],HIA.out,fun e=>absurd (HFI.out.1.symm.trans e) HE1.out,fun _=>rfl⟩
   have he1:=Decidable.not_not.1 he1
   subst he1
   obtain⟨rfl,hbeq⟩:=H0.out rfl
   have hn1:=HPOS.out rfl
   try simp only at hbeq hn1
   have HST:=lH (HG.out k rfl hbeq)
   have hkl:n≤k∧k≤s.size - q:=⟨hbeq.1,by rw[← HLQ.out];exact hbeq.2.1⟩
   have hv63:vs.length<64:=by
    rcases Nat.lt_or_ge vs.length 64 with h|h
    ·exact h
    ·exact absurd (⟨by omega,by omega⟩:vs.length=64∧q<s.size) HNM.out
   have HSG:=lH (fun W=>xeK s { data:=#[44,125] } (q+k) W (by omega) (by omega))
   rw[h44,show (bI s).drop (q+k)=((bI s).drop q).drop k by rw[List.drop_drop]] at HSG
   have hsl:=xgs [44,125] (((bI s).drop q).drop k)
   rw[List.length_drop,HLQ.out] at hsl
   generalize xcR [44,125] (((bI s).drop q).drop k)=T at HSG HST hsl
   unfold xlp at HSG
   clear H0 H1 HG HBAD HPOS hbeq
   go_wp2_with fail
   refine(HSG.out _).mono ?_
   rintro e wb ⟨rfl,hb2⟩
   have HIB2:=lH (HIB.out _ _ _ HIA.out hb2)
   clear hb2
   by_cases h4:T.1=44
   ·have hd4:(T.1 != 44)=false:=by simpa using h4
    have hst:=HST.out.1 h4
    have HPM2:=lH hst.2.2
    clear hst h4
    go_wp2_with fail
    go_roundw
    case rel=>exact⟨q+k+T.2.1,g,vs++[nv],rfl,by rw[List.length_append];go_num,by omega,by omega,by rw[List.length_append];simp only[List.length_singleton];omega,by omega,HIB2,lH (by
      have:=HPM2.out
      rwa[List.drop_drop,← Nat.add_assoc] at this)⟩
    case measure=>simp[intOf];omega
   ·have hd4:(T.1 != 44)=true:=by simpa using h4
    have hst:=HST.out.2 h4
    have HPM2:=lH hst
    clear hst h4
    go_wp2_with fail
    refine bodyPost_ret (v:=.tuple #[.int .i64 ((q+k+T.2.1:Nat):Int),.int .i64 T.2.2]) (by simp[results,Tryz.results282,go_sem]) rfl (xdr.fin (Nat.le_of_lt hpq) hq HPM2.out HIB2.out)
  ·have em:((vs.length:Int) == 64)=false:=by rw[beq_eq_false_iff_ne];omega
   have HCC:=lH (HC.out g vs q wr (by omega) hv64 hpq HIV.out hq)
   have hpos:=xiy g d true (vs.map (·.1)) ((bI s).drop q)
   have hbad:=xf6 HPM.out hk
   have hgood:=fun nv n k (h1:xdU g d true (vs.map (·.1)) ((bI s).drop q)=(nv,n,0)) (hb:BEq ((bI s).drop q) n k)=>xeW HPM.out hk h1 hb (by omega) (by omega)
   have hlq:((bI s).drop q).length=s.size - q:=by rw[List.length_drop,xah]
   rcases hone:xdU g d true (vs.map (·.1)) ((bI s).drop q) with ⟨nv,n,e1⟩
   rw[hone] at HCC hpos hbad
   have HG:=lH (hgood nv n)
   rw[hone] at HG
   have HBAD:=lH hbad
   have HPOS:=lH hpos
   have HLQ:=lH hlq
   have HNM:=lH hm
   unfold xkS at HCC
   clear hgood hbad hpos hone hlq hk hm
   go_wp2_with fail
   refine HCC.out.mono ?_
   rintro e wa ⟨vs',k,rfl,hI',h0,h1⟩
   have HIA:=lH hI'
   have H0:=lH h0
   have H1:=lH h1
   clear hI' h0 h1 HCC
   by_cases he1:e1≠0
   ·have hde:(e1 != 0)=true:=by simpa using he1
    have hfin:=HBAD.out he1
    have hkn:=H1.out he1
    try simp only at hfin hkn
    subst hkn
    have HFI:=lH hfin
    have HE1:=lH he1
    clear hfin he1
    go_wp2_with fail
    refine bodyPost_ret (v:=.tuple #[.int .i64 ((q+k:Nat):Int),.int .i64 e1]) (by simp[results,Tryz.results282,go_sem]) rfl ⟨vs',R.2.1,by rw[HFI.out.1,HFI.out.2],HIA.out,fun e=>absurd (HFI.out.1.symm.trans e) HE1.out,fun _=>rfl⟩
   have he1:=Decidable.not_not.1 he1
   subst he1
   obtain⟨rfl,hbeq⟩:=H0.out rfl
   have hn1:=HPOS.out rfl
   try simp only at hbeq hn1
   have HST:=lH (HG.out k rfl hbeq)
   have hkl:n≤k∧k≤s.size - q:=⟨hbeq.1,by rw[← HLQ.out];exact hbeq.2.1⟩
   have hv63:vs.length<64:=by
    rcases Nat.lt_or_ge vs.length 64 with h|h
    ·exact h
    ·exact absurd (⟨by omega,by omega⟩:vs.length=64∧q<s.size) HNM.out
   have HSG:=lH (fun W=>xeK s { data:=#[44,125] } (q+k) W (by omega) (by omega))
   rw[h44,show (bI s).drop (q+k)=((bI s).drop q).drop k by rw[List.drop_drop]] at HSG
   have hsl:=xgs [44,125] (((bI s).drop q).drop k)
   rw[List.length_drop,HLQ.out] at hsl
   generalize xcR [44,125] (((bI s).drop q).drop k)=T at HSG HST hsl
   unfold xlp at HSG
   clear H0 H1 HG HBAD HPOS hbeq
   go_wp2_with fail
   refine(HSG.out _).mono ?_
   rintro e wb ⟨rfl,hb2⟩
   have HIB2:=lH (HIB.out _ _ _ HIA.out hb2)
   clear hb2
   by_cases h4:T.1=44
   ·have hd4:(T.1 != 44)=false:=by simpa using h4
    have hst:=HST.out.1 h4
    have HPM2:=lH hst.2.2
    clear hst h4
    go_wp2_with fail
    go_roundw
    case rel=>exact⟨q+k+T.2.1,g,vs++[nv],rfl,by rw[List.length_append];go_num,by omega,by omega,by rw[List.length_append];simp only[List.length_singleton];omega,by omega,HIB2,lH (by
      have:=HPM2.out
      rwa[List.drop_drop,← Nat.add_assoc] at this)⟩
    case measure=>simp[intOf];omega
   ·have hd4:(T.1 != 44)=true:=by simpa using h4
    have hst:=HST.out.2 h4
    have HPM2:=lH hst
    clear hst h4
    go_wp2_with fail
    refine bodyPost_ret (v:=.tuple #[.int .i64 ((q+k+T.2.1:Nat):Int),.int .i64 T.2.2]) (by simp[results,Tryz.results282,go_sem]) rfl (xdr.fin (Nat.le_of_lt hpq) hq HPM2.out HIB2.out)
end Go.Proofs.YtjinnigjfopbcaaGreatDoor
