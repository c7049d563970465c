/- bNb bMT bQd bNc bUb bUe bUf. -/
import Derived.Test.YtjkgkmmkehnggaaGreatDoorYb5
import Derived.Test.YtjkgkmmkehnggaaGreatDoorYs
set_option maxHeartbeats 16000000
namespace Go.Proofs.YtjkgkmmkehnggaaGreatDoor
set_option linter.unusedVariables false
set_option linter.unusedSimpArgs false
open Go.RowKit Go.Shelf
set_option maxRecDepth 20000
attribute [local go_sem] Oper.semAt_some
theorem xqH (n:Nat) (hn:1≤n):∀ (k:Nat) (l:List En),k<(xbT n l).length↔k*n<l.length
 | 0,l=>by
  cases l with
  | nil=>simp[xeQ]
  | cons e l=>rw[xbW n hn _ (by simp)];simp
 | k+1,l=>by
  by_cases h:l=[]
  ·subst h;simp[xeQ]
  ·rw[xbW n hn l h,List.length_cons,Nat.add_lt_add_iff_right,xqH n hn k (l.drop n),List.length_drop,Nat.succ_mul]
   omega
theorem xw8 (n:Nat) (hn:1≤n):∀ (k:Nat) (l:List En),k*n<l.length→(xbT n l)[k]?=some ((l.drop (k*n)).take n)
 | 0,l,h=>by
  have h0:l≠[]:=by intro e;rw[e] at h;simp at h
  rw[xbW n hn l h0];simp
 | k+1,l,h=>by
  have h0:l≠[]:=by intro e;rw[e] at h;simp at h
  rw[xbW n hn l h0,List.getElem?_cons_succ,xw8 n hn k (l.drop n) (by rw[List.length_drop];rw[Nat.succ_mul] at h;omega),List.drop_drop,Nat.succ_mul,Nat.add_comm n]
def chV (g off len n k:Nat):Value:=.slice (some ⟨g,off+k*n*4,none⟩) (min n (len - k*n)) (min n (len - k*n))
theorem xyo {W:World} {l:List En} {g off cap:Nat} (h:xam W (.slice (some ⟨g,off,none⟩) l.length cap) l) (n k:Nat) (hk:k*n<l.length):xam W (chV g off l.length n k) ((l.drop (k*n)).take n):=by
 have h1:=h.dropS (k*n) (Nat.le_of_lt hk)
 rw[← List.length_drop] at h1
 have h2:=h1.takeS (min n (l.length - k*n)) (by rw[List.length_drop];omega)
 have hl:((l.drop (k*n)).take n).length=min n (l.length - k*n):=by rw[List.length_take,List.length_drop]
 have hm:(l.drop (k*n)).take (min n (l.length - k*n))=(l.drop (k*n)).take n:=by
  rw[List.take_eq_take_iff,List.length_drop];omega
 rw[hm] at h2
 unfold chV
 generalize min n (l.length - k*n)=m at *
 obtain⟨a,c,e,g1,g2,hc⟩:=h2
 injection e with e1 e2 e3
 subst e1
 exact⟨_,_,by rw[hl],by rw[hl];exact Nat.le_refl _,by rw[hl] at g1;omega,hc⟩
set_option maxRecDepth 100000 in
theorem xpy (l:List En) (g off cap n B0 B1:Nat) (a:Option Addr) (w:World) (hn:1≤n∧n≤9223372036854775807) (ha:l≠[]→a=some ⟨g,off,none⟩) (hcap:l.length≤cap) (hmx:cap≤maxLen) (hll:l.length≤1000000)
  (h0:w.cell? ⟨B0,0,none⟩=some (.slice a l.length cap)) (h1:w.cell? ⟨B1,0,none⟩=some (.int .i64 n)) :
  xfM Tryz.prog 212 #[.pointer (some ⟨B0,0,none⟩),.pointer (some ⟨B1,0,none⟩)] (fun k=>#[chV g off l.length n k]) (xbT n l).length (fun _=>False) (fun b=>b=B0∨b=B1) (fun _ _=>True) (fun _=>True) w:=by
 intro n0 lp J Jx S0 W hW hJ hJx hG hS0 hY hj0
 have hn0:¬ S0 B0:=fun h=>(hS0 _ h).2 (.inl rfl)
 have hn1:¬ S0 B1:=fun h=>(hS0 _ h).2 (.inr rfl)
 have g0:=xaa hW h0
 have g1:=xaa hW h1
 unfold maxLen at hmx
 have HJ:=lH hJ
 have HG:=lH hG
 have HY:=lH hY
 have HN0:=lH hn0
 have HN1:=lH hn1
 have HA:=lH ha
 have HG0:=lH g0
 have HG1:=lH g1
 have HLT:=lH (fun k=>xqH n hn.1 k l)
 have HCL:Hid ((xbT n l).length=(xbT n l).length):=lH rfl
 clear hJ hY hS0 hJx hn0 hn1 hG ha h0 h1
 refine callsIn_of_wp Tryz.func212 rfl trivial ?_ rfl
 simp only[Tryz.ntmps212,List.size_toArray,List.length_cons,List.length_nil,Nat.reduceAdd,Nat.reduceSub,Array.replicate_succ,Array.replicate_zero,List.push_toArray,List.append_toArray,List.nil_append,List.cons_append]
 clear g0 g1
 gi_wp2
 gi_loopw [4] (fun i wr=>∃ k q:Nat,Hid (q=k*n)∧i=.int .i64 (q:Int)∧Hid (k≤(xbT n l).length)∧∃ S,Hid (J k S wr)∧Hid (KeepsS S0 S W wr)) (fun i _=>l.length - (intOf i).toNat)
 case atStart=>exact⟨0,0,lH (by rw[Nat.zero_mul]),rfl,lH (Nat.zero_le _),S0,lH hj0,lH (.refl _ _)⟩
 case round =>
  obtain⟨k,q,HQ,rfl,HKL,S,HJs,HK⟩:=hrel
  have c0:=HK.out.cell (p:=⟨B0,0,none⟩) HN0.out HG0.out
  have c1:=HK.out.cell (p:=⟨B1,0,none⟩) HN1.out HG1.out
  by_cases hlt:q<l.length
  ·have hne:l≠[]:=by rintro rfl;simp at hlt
   have ha:=HA.out hne
   subst ha
   have hkl:=(HLT.out k).2 (by rw[← HQ.out];exact hlt)
   have HKN:=lH hkl
   have hJd:J k S wr.drew:=HJ.out.grow (s:=(k,S)) HJs.out (Below.drew (Below.refl _ _))
   have HJD:=lH hJd
   have HKD:=lH (KeepsS.below S (Below.drew (Below.refl wr.heap.size wr)))
   have d0:=xaa (Below.drew (Below.refl wr.heap.size wr)) c0
   have d1:=xaa (Below.drew (Below.refl wr.heap.size wr)) c1
   have hq1:(q:Int)<(l.length:Int):=by omega
   have hq2:(q:Int)≤(l.length:Int):=by omega
   have hq3:¬ cap - q=0:=by omega
   obtain⟨m,hm⟩:∃ m:Nat,min n (l.length - q)=m:=⟨_,rfl⟩
   have hm2:(if l.length - q<n then ((l.length - q:Nat):Int) else (n:Int))=(m:Int):=by split <;> omega
   have hm3:m≤l.length - q:=by omega
   have hm4:1≤m:=by omega
   have hw1:IntKind.i64.wrap ((q:Int)+(m:Int))=((q+m:Nat):Int):=by rw[IntKind.wrap_i64] <;> omega
   have hw2:IntKind.i64.wrap ((q:Int)+(n:Int))=((q+n:Nat):Int):=by
    have:=HQ.out
    cases k with
    | zero=>rw[IntKind.wrap_i64] <;> omega
    | succ k=>rw[Nat.succ_mul] at this;rw[IntKind.wrap_i64] <;> omega
   have hv:chV g off l.length n k=.slice (some ⟨g,off+q*4,none⟩) m m:=by unfold chV;rw[← HQ.out,hm]
   obtain⟨fn,tmps,assign,body,hy,hR⟩:=HY.out _ S _ HJD.out hkl
   rw[hv] at hy
   have HR:=lH hR
   have HM:=lH hm
   have HM2:=lH (And.intro hm2 (show min (n:Int) ((l.length - q:Nat):Int)=(m:Int) by omega))
   clear hkl hJd hne hR hv hm hm2
   gi_wp2
   gi_region
   first|rw[HM2.out.1]|rw[HM2.out.2]
   gi_wp2
   refine⟨xbM,HR.out.mono ?_⟩
   rintro x W3 (⟨rfl,S3,hJ3,hk3⟩|⟨rfl,hJx3,_⟩)
   ·have HJ3:=lH hJ3
    have HK3:=lH ((HK.out.trans HKD.out).trans hk3)
    have e1:=HK3.out.cell (p:=⟨B1,0,none⟩) HN1.out HG1.out
    have HQ2:Hid (q+n=(k+1)*n):=lH (by rw[Nat.succ_mul,← HQ.out])
    have hme:l.length - (q+n)<l.length - q:=by omega
    clear hJ3 hk3 c0 c1 d0 d1 HK HKD HJD HJs hy HR HM HM2 HN0 HA
    gi_wp2
    go_roundw
    case rel=>exact⟨k+1,q+n,HQ2,by first|rfl|(push_cast;rfl),lH HKN.out,S3,HJ3,HK3⟩
    case measure=>simp[intOf];omega
   ·have HJ3:=lH hJx3
    clear hJx3 c0 c1 d0 d1 HK HKD HJD HJs hy HR HM HM2 HN0 HA
    gi_wp2
    refine bodyPost_ret (results_none rfl _ _ _) rfl ?_
    exact⟨⟨_,rfl⟩,.inr ⟨k+1,HKN.out,HJ3.out⟩⟩
  ·have hq1:¬ (q:Int)<(l.length:Int):=by omega
   have HKE:Hid (k=(xbT n l).length):=lH (by
    have h1:=HKL.out
    have h2:=mt (HLT.out k).1 (by rw[← HQ.out];exact hlt)
    omega)
   gi_wp2
   go_end0
   have hjz:J (xbT n l).length S wr:=by rw[← HKE.out];exact HJs.out
   first|exact⟨⟨_,rfl⟩,.inl ⟨S,hjz,trivial⟩⟩|exact⟨⟨_,rfl⟩,.inl ⟨S,hjz⟩⟩
theorem xtn (v:Value) (l:List En) (n:Nat) (w:World) (hv:xam w v l) (hn:1≤n∧n≤9223372036854775807) :
  Calls Tryz.prog 143 #[v,.int .i64 n] w fun e w'=>e=.returned (.func (.func 212) #[] #[.pointer (some ⟨w.heap.size,0,none⟩),.pointer (some ⟨w.heap.size+1,0,none⟩)])∧w'.cell? ⟨w.heap.size,0,none⟩=some v∧w'.cell? ⟨w.heap.size+1,0,none⟩=some (.int .i64 n)∧Below w.heap.size w w':=by
 obtain⟨av,cv,rfl⟩:=xak hv
 clear hv
 have hn1:¬ (n:Int)<1:=by omega
 have d1:decide ((n:Int)<1)=false:=decide_eq_false hn1
 go_enter Tryz.func143,Tryz.ntmps143
 go_wp2_with fail
 go_ret
 exact⟨rfl,by simp,by simp,by go_grown⟩
end Go.Proofs.YtjkgkmmkehnggaaGreatDoor
namespace Go.Proofs.YtjkgkmmkehnggaaGreatDoor
set_option linter.unusedVariables false
set_option linter.unusedSimpArgs false
open Go.RowKit
set_option maxRecDepth 20000
open Go.RowKit
set_option maxRecDepth 20000
theorem xzF:(Tryz.prog.info? 147).map (fun i=>(i.zero,i.size,i.bytes))=some (some (.agg #[.int .u64 0,.int .u64 0,.int .u32 0,.int .u32 0]),4,24):=by kernel_rfl
end Go.Proofs.YtjkgkmmkehnggaaGreatDoor
namespace Go.Proofs.YtjkgkmmkehnggaaGreatDoor
set_option linter.unusedVariables false
set_option linter.unusedSimpArgs false
open Go.RowKit
def xfk (l:List En) (w:World) (x:Ending) (w':World):Prop:=∃ v',x=.returned v'∧xam w' v' l∧(∀ a n c,v'=.slice (some a) n c→w.heap.size≤a.block∧a.block<w'.heap.size)∧Below w.heap.size w w'
theorem xu1 {W:World} {ad:Addr} {cap:Nat} {l:List En} (h:xam W (.slice (some ad) l.length cap) l):∀ j u,(xaw l)[j]?=some u→W.cell? (ad.add j)=some u:=by
 obtain⟨a,cap',he,h1,h2,hc⟩:=h
 cases he
 intro j u hu
 have hj:j<l.length*4:=by rw[← xbt];exact(List.getElem?_eq_some_iff.1 hu).1
 obtain⟨t,ht⟩:∃ t,l[j / 4]?=some t:=⟨_,List.getElem?_eq_getElem (by omega)⟩
 obtain⟨g,off,ha,_,c0,c1,c2,c3⟩:=hc (j / 4) t ht
 obtain⟨f0,f1,f2,f3⟩:=xeY l (j / 4) t ht
 injection ha with ha
 subst ha
 have hadd:(⟨g,off,none⟩:Addr).add j=⟨g,off+j,none⟩:=by simp[Addr.add]
 rw[hadd]
 rcases(by omega:j=j / 4*4∨j=j / 4*4+1∨j=j / 4*4+2∨j=j / 4*4+3) with e|e|e|e
 ·rw[e,f0] at hu;rw[← hu];rw[show off+j=off+j / 4*4 from by omega];exact c0
 ·rw[e,f1] at hu;rw[← hu];rw[show off+j=off+j / 4*4+1 from by omega];exact c1
 ·rw[e,f2] at hu;rw[← hu];rw[show off+j=off+j / 4*4+2 from by omega];exact c2
 ·rw[e,f3] at hu;rw[← hu];rw[show off+j=off+j / 4*4+3 from by omega];exact c3
theorem xgp (ad:Addr) (n c:Nat) (w:World):(Op.equal 84 (.slice (some ad) n c) (.slice none 0 0)).run Tryz.prog w=.ok false w:=by
 rw[Op.equal,show Op.maxDepth=9999+1 from rfl]
 unfold Op.equalIn
 simp[go_sem]
theorem xfV (ad:Addr) (n c:Nat) (w:World):(binOp BinOp.eql 84 (.slice (some ad) n c) (.slice none 0 0)).run Tryz.prog w=.ok (.bool false) w:=by
 simp[binOp,go_sem,xgp]
theorem xg4 (c:Nat) (w:World):(Op.equal 84 (.slice none 0 c) (.slice none 0 0)).run Tryz.prog w=.ok true w:=by
 rw[Op.equal,show Op.maxDepth=9999+1 from rfl]
 unfold Op.equalIn
 simp[go_sem]
theorem xfZ (c:Nat) (w:World):(binOp BinOp.eql 84 (.slice none 0 c) (.slice none 0 0)).run Tryz.prog w=.ok (.bool true) w:=by
 simp[binOp,go_sem,xg4]
set_option maxRecDepth 20000 in
theorem xhT (v:Value) (l:List En) (w:World) (hv:xam w v l) (hl:l.length≤4096):Calls Tryz.prog 75 #[v] w (xfk l w):=by
 obtain⟨i0,hi,hz0,hz1,hz2⟩:=xao xzF
 have HI0:=lH hi
 have HZ0:=lH hz0
 have HZ1:=lH hz1
 have HZ2:=lH hz2
 clear hi hz0 hz1 hz2
 have hv':=hv
 obtain⟨a,cap,rfl,h1,h2,hc⟩:=hv'
 cases a with
 | none =>
  have hl0:l=[]:=by
   cases l with
   | nil=>rfl
   | cons t l=>obtain⟨g,off,ha,_⟩:=hc 0 t rfl;cases ha
  subst hl0
  clear hc hv
  have hneq:=fun W=>xfZ cap W
  go_enter Tryz.func75,Tryz.ntmps75
  go_wp2_with fail
  go_ret
  exact⟨_,rfl,xiG _,fun a n c h=>(by cases h),Below.refl _ _⟩
 | some ad =>
  have HV:=lH hv
  have hneq:=fun W=>xfV ad l.length cap W
  clear hc hv
  go_enter Tryz.func75,Tryz.ntmps75
  have HO:Hid ((w.alloc (.cells #[] 147)).ownsRow w.heap.size 147 4 (.slice (some ⟨w.heap.size,0,none⟩) 0 0) 0 (xaw [])):=lH ⟨rfl,.inr ⟨w.heap.size,0,#[],rfl,Nat.le_refl _,heap_alloc_new w _,Nat.le_refl _,Nat.zero_le _,rfl,rfl⟩⟩
  have HNW:=lH (xu1 (HV.out.below ((Below.refl w.heap.size w).alloc (Nat.le_refl _) (.cells #[] 147))))
  go_wp2_with (first|(at_builtin;refine wpList_append_own _ rfl _ _ 84 rfl w.heap.size 147 i0 (.agg #[.int .u64 0,.int .u64 0,.int .u32 0,.int .u32 0]) 4 24 Tryz.underlying84 HI0.out HZ0.out HZ1.out HZ2.out rfl (by decide) _ _ _ rfl HO.out ad l.length cap (xaw l) rfl (xbt l) HNW.out (xc3 l) ?c4 ?c5 ?c6 ?_)|fail)
  case c4=>unfold maxLen;omega
  case c5=>omega
  case c6=>simp
  intro v' w5 hown' hgr _
  have hO:xa5 w5 w.heap.size 147 v' l:=xcn hown' (by omega) (by simp[xaw])
  have hb5:Below w.heap.size w w5:=((Below.refl w.heap.size w).alloc (Nat.le_refl _) _).grown hgr (by simp) (fun g hg=>(World.ownsRow.lt HO.out g hg).1)
  have HO5:=lH hO
  have HB5:=lH hb5
  clear hown' hgr hO hb5
  go_wp2_with fail
  go_ret
  exact⟨_,rfl,HO5.out.ensAt,fun a n c h=>(HO5.out.lt a.block (by have h':v'=.slice (some a) n c:=h;rw[h'];rfl)),HB5.out⟩
end Go.Proofs.YtjkgkmmkehnggaaGreatDoor
namespace Go.Proofs.YtjkgkmmkehnggaaGreatDoor
set_option linter.unusedVariables false
set_option linter.unusedSimpArgs false
open Go.RowKit Go.Shelf
set_option maxRecDepth 20000
attribute [local go_sem] Oper.semAt_some
theorem xAk:(Tryz.prog.info? 84).map (fun i=>(i.zero,i.size,i.bytes))=some (some (.slice none 0 0),1,24):=by kernel_rfl
theorem xam.grownR {X Y:World} {row:Option Nat} {v:Value} {l:List En} (h:xam X v l) (hg:X.grownBy Y row) (hr:∀ r,row=some r→∃ o:Obj,X.heap[r]?=some o∧o.isCells=false):xam Y v l:=by
 obtain⟨a,cap,rfl,h1,h2,hc⟩:=h
 refine⟨a,cap,rfl,h1,h2,fun k t ht=>?_⟩
 obtain⟨g,off,rfl,hg',c0,c1,c2,c3⟩:=hc k t ht
 have hne:row≠some g:=by
  intro e
  obtain⟨o,ho,hn⟩:=hr g e
  have c:=c0
  unfold World.cell? at c
  simp only[ho] at c
  cases o <;> first|(simp[Obj.isCells] at hn;done)|(simp at c;done)
 have hb:Y.heap[g]?=X.heap[g]?:=hg.block g hg' (fun e=>hne e.symm)
 exact⟨g,off,rfl,Nat.lt_of_lt_of_le hg' hg.size,(World.cell?_of_block (a:=⟨g,off+k*4,none⟩) hb).trans c0,(World.cell?_of_block (a:=⟨g,off+k*4+1,none⟩) hb).trans c1,(World.cell?_of_block (a:=⟨g,off+k*4+2,none⟩) hb).trans c2,(World.cell?_of_block (a:=⟨g,off+k*4+3,none⟩) hb).trans c3⟩
theorem xam.keepB {X Y:World} {v:Value} {l:List En} (h:xam X v l) (hs:X.heap.size≤Y.heap.size) (hk:∀ a n c,v=.slice (some a) n c→a.block<X.heap.size→Y.heap[a.block]?=X.heap[a.block]?):xam Y v l:=by
 obtain⟨a,cap,rfl,h1,h2,hc⟩:=h
 refine⟨a,cap,rfl,h1,h2,fun k t ht=>?_⟩
 obtain⟨g,off,rfl,hg',c0,c1,c2,c3⟩:=hc k t ht
 have hb:Y.heap[g]?=X.heap[g]?:=hk ⟨g,off,none⟩ _ _ rfl hg'
 exact⟨g,off,rfl,Nat.lt_of_lt_of_le hg' hs,(World.cell?_of_block (a:=⟨g,off+k*4,none⟩) hb).trans c0,(World.cell?_of_block (a:=⟨g,off+k*4+1,none⟩) hb).trans c1,(World.cell?_of_block (a:=⟨g,off+k*4+2,none⟩) hb).trans c2,(World.cell?_of_block (a:=⟨g,off+k*4+3,none⟩) hb).trans c3⟩
theorem xur {w:World} {v:Value} {l:List En} (h:xam w v l):∃ a cap g off,v=.slice a l.length cap∧l.length≤cap∧cap≤maxLen∧(l≠[]→a=some ⟨g,off,none⟩):=by
 obtain⟨a,cap,rfl,h1,h2,hc⟩:=h
 cases l with
 | nil=>exact⟨a,cap,0,0,rfl,h1,h2,fun h=>absurd rfl h⟩
 | cons e l =>
  obtain⟨g,off,rfl,_⟩:=hc 0 e rfl
  exact⟨_,cap,g,off,rfl,h1,h2,fun _=>rfl⟩
theorem xfG (W:World) (B:Nat) (ty:TypeId) (v x:Value) (vs:List Value) (b c:Nat) (hown:xhn W B 84 v vs) (hx:W.cell? ⟨b,0,none⟩=some x) (h1:x.oneCell'=true) (hl:vs.length≤1000000) (hB:B≤W.heap.size) :
  ∃ v' w',(Builtin.append_ #[156,156] ty #[v,.slice (some ⟨b,0,none⟩) 1 c]).run Tryz.prog W=.ok v' w'∧xhn w' B 84 v' (vs++[x])∧W.grownBy w' v.ownBlock∧(v'.ownBlock=v.ownBlock∨∃ g,v'.ownBlock=some g∧W.heap.size≤g):=by
 obtain⟨i0,hi,hz0,hz1,hz2⟩:=xao xAk
 have hnews:∀ j u,[x][j]?=some u→W.cell? ((⟨b,0,none⟩:Addr).add j)=some u:=by
  intro j u hu
  match j,hu with
  | 0,hu=>simp only[List.getElem?_cons_zero,Option.some.injEq] at hu;rw[← hu];exact hx
  | j+1,hu=>simp at hu
 have hone:∀ u ∈ [x],u.oneCell'=true:=by intro u hu;simp at hu;subst hu;exact h1
 have ht:=Tryz.underlying156
 obtain⟨v',w',hr,h2,h3,h4⟩:=run_append_own (P:=Tryz.prog) W B 156 ty 84 i0 _ 1 24 ht hi hz0 hz1 hz2 rfl (by omega) v vs.length vs hown ⟨b,0,none⟩ 1 c [x] rfl hnews hone (by unfold maxLen;omega) (by omega) hB
 refine⟨v',w',hr,xp6 h2 (by simp) rfl,h3,?_⟩
 rcases hown.2 with ⟨rfl,hn⟩|⟨g,cap,cur,rfl,hbg,hg,hnc,hcm,hcs,htake⟩
 ·obtain⟨_,_,hr2,h22,_,_⟩:=run_append_own (P:=Tryz.prog) W W.heap.size 156 ty 84 i0 _ 1 24 ht hi hz0 hz1 hz2 rfl (by omega) (.slice none 0 0) vs.length vs ⟨hown.1,.inl ⟨rfl,hn⟩⟩ ⟨b,0,none⟩ 1 c [x] rfl hnews hone (by unfold maxLen;omega) (by omega) (Nat.le_refl _)
  rw[hr] at hr2
  injection hr2 with e1 e2
  subst e1 e2
  rcases h22.2 with ⟨rfl,_⟩|⟨g,cap,cur,rfl,hg,_⟩
  ·exact .inl rfl
  ·exact .inr ⟨g,rfl,hg⟩
 ·have hL:vs.length=vs.length*i0.size:=by rw[hz1];omega
  by_cases hroom:vs.length+1≤cap
  ·have hr2:=run_append_room (P:=Tryz.prog) W 156 ty 84 i0 ht hi g vs.length cap cur hg ⟨b,0,none⟩ 1 c [x] (by rw[hz1];rfl) hnews hone hroom (by rw[hz1];simp;omega)
   rw[hr] at hr2
   injection hr2 with e1 e2
   rw[e1]
   exact .inl rfl
  ·have hr2:=run_append_grow (P:=Tryz.prog) W 156 ty 84 i0 _ ht hi hz0 ⟨g,0,none⟩ vs.length cap vs hL (World.ownsRow.cells hown rfl) ⟨b,0,none⟩ 1 c [x] (by rw[hz1];rfl) hnews (by omega) (by omega) (growslice_fits (by omega) (by rw[hz2];omega))
   rw[hr] at hr2
   injection hr2 with e1 e2
   rw[e1]
   exact .inr ⟨_,rfl,Nat.le_refl _⟩
structure CutP (w:World) (n0:Nat) (ps:List (List En)) (vo:Value) (vs:List Value) (W:World):Prop where
 bx:Boxed W n0 156 vo
 row:xhn W (n0+1) 84 vo vs
 pcs:Pcs W vs ps
 off:∀ (k:Nat) (a:Addr) (n c:Nat),vs[k]?=some (Value.slice (some a) n c)→n0<a.block∧a.block<W.heap.size∧vo.ownBlock≠some a.block
 bel:Below n0 w W
def xpZ (n0:Nat) (vo:Value) (b:Nat):Prop:=b=n0∨vo.ownBlock=some b
section
variable {w W W2 W5:World} {n0:Nat} {ps:List (List En)} {vo:Value} {vs:List Value}
theorem CutP.lt (h:CutP w n0 ps vo vs W):∀ b,xpZ n0 vo b→b<W.heap.size:=by
 rintro b (rfl|hb)
 ·exact h.bx.lt
 ·exact(h.row.lt b hb).2
theorem CutP.grown {row:Option Nat} (h:CutP w n0 ps vo vs W) (hg:W.grownBy W2 row) (hr:∀ r,row=some r→n0≤r∧∃ o:Obj,W.heap[r]?=some o∧o.isCells=false):CutP w n0 ps vo vs W2:=by
 refine⟨h.bx.kept hg (fun e=>?_),World.ownsRow.kept h.row hg ?_,⟨h.pcs.1,fun k x p hx hp=>(h.pcs.2 k x p hx hp).grownR hg (fun r e=>(hr r e).2)⟩,fun k a n c hk=>?_,h.bel.grown hg (Nat.le_of_lt h.bx.lt) (fun r e=>(hr r e).1)⟩
 ·obtain⟨_,o,ho,hn⟩:=hr n0 e.symm
  rw[show W.heap[n0]?=_ from h.bx] at ho
  cases ho;cases hn
 ·rcases h.row.2 with ⟨rfl,_⟩|⟨g,cap,cur,rfl,_,hgb,_⟩
  ·exact .inl rfl
  ·refine .inr fun e'=>?_
   obtain⟨_,o,ho,hn⟩:=hr g e'.symm
   rw[hgb] at ho
   cases ho;cases hn
 ·obtain⟨o1,o2,o3⟩:=h.off k a n c hk
  exact⟨o1,Nat.lt_of_lt_of_le o2 hg.size,o3⟩
theorem CutP.step {x v5:Value} {p:List En} {o:Obj} (h:CutP w n0 ps vo vs W) (hb2:Below W.heap.size W W2) (hx:xam W2 x p) (hxb:∀ a n c,x=.slice (some a) n c→W.heap.size≤a.block∧a.block<W2.heap.size)
  (ho5:xhn W5 (n0+1) 84 v5 (vs++[x])) (hg5:(W2.alloc o).grownBy W5 vo.ownBlock) (hl:v5.ownBlock=vo.ownBlock∨∃ g,v5.ownBlock=some g∧(W2.alloc o).heap.size≤g) :
  CutP w n0 (ps++[p]) v5 (vs++[x]) (W5.setCell ⟨n0,0,none⟩ v5)∧KeepsS (xpZ n0 vo) (xpZ n0 v5) W (W5.setCell ⟨n0,0,none⟩ v5)∧Boxed W5 n0 156 vo:=by
 have hn0:n0<W.heap.size:=h.bx.lt
 have hba:Below W.heap.size W (W2.alloc o):=hb2.alloc hb2.size o
 have bx2:Boxed (W2.alloc o) n0 156 vo:=(hba.block n0 hn0).trans h.bx
 have row2:xhn (W2.alloc o) (n0+1) 84 vo vs:=h.row.below hba
 have bx5:Boxed W5 n0 156 vo:=bx2.kept hg5 (bx2.not_row (by decide) row2)
 have hne5:some n0≠v5.ownBlock:=bx5.not_row (by decide) ho5
 have hset:∀ b,b≠n0→(W5.setCell ⟨n0,0,none⟩ v5).heap[b]?=W5.heap[b]?:=fun b hb=>Below.heap_setCell _ _ _ _ (by simpa using hb)
 have hsz:(W5.setCell ⟨n0,0,none⟩ v5).heap.size=W5.heap.size:=by simp
 have hs2:=hb2.size
 have hsa:(W2.alloc o).heap.size=W2.heap.size+1:=by simp
 have hs5:W2.heap.size+1≤W5.heap.size:=by have:=hg5.size;rw[hsa] at this;exact this
 have keepP:∀ b,b≠n0→vo.ownBlock≠some b→b<(W2.alloc o).heap.size→(W5.setCell ⟨n0,0,none⟩ v5).heap[b]?=(W2.alloc o).heap[b]?:=fun b h1 h2 h3=>(hset b h1).trans (hg5.block b h3 (fun e=>h2 e.symm))
 refine⟨⟨bx5.set v5,ho5.keep (fun k hk=>hset k (fun e=>hne5 (by rw[hk,e]))),?_,?_,?_⟩,⟨?_,?_,?_⟩,bx5⟩
 ·refine Pcs.snoc ⟨h.pcs.1,fun k y q hy hq=>((h.pcs.2 k y q hy hq).below hba).keepB (by rw[hsz,hsa];exact hs5) (fun a n c e hlt=>?_)⟩ ((hx.below ((Below.refl _ W2).alloc (Nat.le_refl _) o)).keepB (by rw[hsz,hsa];exact hs5) (fun a n c e hlt=>?_))
  ·subst e
   obtain⟨o1,o2,o3⟩:=h.off k a n c hy
   exact keepP a.block (by omega) o3 hlt
  ·have hq:=hxb a n c e
   exact keepP a.block (by omega) (fun e2=>by have:=(h.row.lt _ e2).2;omega) hlt
 ·intro k a n c hk
  rw[hsz]
  rcases Nat.lt_or_ge k vs.length with hlt|hge
  ·rw[List.getElem?_append_left hlt] at hk
   obtain⟨o1,o2,o3⟩:=h.off k a n c hk
   refine⟨o1,by omega,fun e=>?_⟩
   rcases hl with hl|⟨g,hl,hg⟩
   ·exact o3 (by rw[← hl];exact e)
   ·rw[hl] at e;cases e;rw[hsa] at hg;omega
  ·rw[List.getElem?_append_right hge] at hk
   have h0:k - vs.length=0:=by
    have:=(List.getElem?_eq_some_iff.1 hk).1
    simp at this
    omega
   rw[h0] at hk
   simp at hk
   have hq:=hxb a n c hk
   refine⟨by omega,by omega,fun e=>?_⟩
   rcases hl with hl|⟨g,hl,hg⟩
   ·rw[hl] at e
    have:=(h.row.lt _ e).2;omega
   ·rw[hl] at e;cases e;rw[hsa] at hg;omega
 ·exact((h.bel.trans (hba.mono (Nat.le_of_lt hn0))).grown hg5 (by rw[hsa];omega) (fun k hk=>by have:=(h.row.lt k hk).1;omega)).setCell (p:=⟨n0,0,none⟩) (Nat.le_refl _) v5
 ·rw[hsz];omega
 ·intro b o' hb ho
  have h1:b≠n0:=fun e=>hb (.inl e)
  have h2:vo.ownBlock≠some b:=fun e=>hb (.inr e)
  have h3:=xat ho
  exact(keepP b h1 h2 (by rw[hsa];omega)).trans ((hba.block b h3).trans ho)
 ·rintro b (rfl|hb)
  ·exact .inl (.inl rfl)
  ·rcases hl with hl|⟨g,hl,hg⟩
   ·exact .inl (.inr (by rw[← hl];exact hb))
   ·rw[hl] at hb;cases hb;rw[hsa] at hg;exact .inr (by omega)
end
def xAr (w:World) (n0:Nat) (P:List (List En)) (k:Nat) (S:Nat→Prop) (W:World):Prop:=∃ vo vs,CutP w n0 (P.take k) vo vs W∧∀ b,S b↔xpZ n0 vo b
theorem xo3 (w:World) (n0:Nat) (P:List (List En)) (B:Nat) (hB:n0≤B):xbR (fun _=>False) B (xAr w n0 P):=by
 rintro⟨k,S⟩ X Y row ⟨vo,vs,h,hS⟩ hg hr
 refine⟨vo,vs,h.grown hg (fun r e=>?_),hS⟩
 rcases hr r e with h|h
 ·exact h.elim
 ·exact⟨Nat.le_trans hB h.1,h.2⟩
theorem xAr.lt {w:World} {n0:Nat} {P:List (List En)} {k:Nat} {S:Nat→Prop} {W:World} (h:xAr w n0 P k S W):∀ b,S b→b<W.heap.size:=by
 obtain⟨vo,vs,h,hS⟩:=h
 exact fun b hb=>h.lt b ((hS b).1 hb)
set_option maxRecDepth 100000 in
theorem xqp (v:Value) (l:List En) (n:Int) (w:World) (hv:xam w v l) (hm:xaT l) (hl:l.length≤200) (hn:-9223372036854775808≤n∧n≤9223372036854775807) :
  Calls Tryz.prog 76 #[v,.int .i64 n] w fun e w'=>∃ v',e=.returned v'∧xqF w' v' (xyP n l)∧Below w.heap.size w w':=by
 by_cases h1:n<1
 ·have hz:xyP n l=[]:=by unfold xyP;rw[if_pos h1]
  have HZ:=lH hz
  have d1:decide (n<1)=true:=decide_eq_true h1
  obtain⟨av,cv,rfl⟩:=xak hv
  clear hz hv h1
  go_enter Tryz.func76,Tryz.ntmps76
  go_wp2_with fail
  go_ret
  exact⟨_,rfl,by rw[HZ.out];exact⟨[],xh3 _,xsL _⟩,Below.refl _ _⟩
 ·obtain⟨N,rfl⟩:∃ N:Nat,n=N:=⟨n.toNat,by omega⟩
  have hN:1≤N∧N≤9223372036854775807:=by omega
  have HZ:Hid (xyP (N:Int) l=xbT N l):=lH (by unfold xyP;rw[if_neg h1,Int.toNat_natCast])
  have d1:decide ((N:Int)<1)=false:=decide_eq_false h1
  have HV:=lH hv
  have HCH:=lH (fun X (hX:Below w.heap.size w X)=>xtn v l N X (hv.below hX) hN)
  obtain⟨a,cap,g,off,rfl,hcap,hmx,ha⟩:=xur hv
  have HSQ:=lH (fun X B0 B1 (c0:X.cell? ⟨B0,0,none⟩=some (.slice a l.length cap)) (c1:X.cell? ⟨B1,0,none⟩=some (.int .i64 N))=>xpy l g off cap N B0 B1 a X hN ha hcap hmx (by omega) c0 c1)
  have HA:=lH ha
  have HN:=lH hN
  clear hv ha hcap hmx hN
  refine(callsIn_wide (n:=3)).1 ?_
  refine callsIn_of_wp_marks Tryz.func76 rfl trivial ?_ rfl
  simp only[Tryz.ntmps76,List.size_toArray,List.length_cons,List.length_nil,Nat.reduceAdd,Nat.reduceSub,Array.replicate_succ,Array.replicate_zero,List.push_toArray,List.append_toArray,List.nil_append,List.cons_append]
  gi_wp2
  refine⟨trivial,(callsIn_wide.2 (HCH.out _ ((Below.refl _ w).alloc (Nat.le_refl _) _))).mono ?_⟩
  rintro x w2 ⟨rfl,hc0,hc1,hb2⟩
  have hP2:CutP w w.heap.size [] (.slice none 0 0) [] w2:=⟨(hb2.block _ (by simp)).trans (Boxed.new w _ _),xuG _ _ _,xsL _,fun k a n c h=>by simp at h,((Below.refl _ w).alloc (Nat.le_refl _) _).trans (hb2.mono (by simp))⟩
  have hz2:=xbS hc1
  have HP2:=lH hP2
  have HS2:=lH (HSQ.out w2 _ _ hc0 hc1)
  simp only[World.size_alloc] at hz2
  simp only[World.size_alloc] at HS2
  clear hc0 hc1 hP2 HSQ HCH hb2
  gi_wp2
  refine xdK (n:=3) (val:=fun k=>chV g off l.length N k) (p:=12) (r:=6) rfl (enters_of Tryz.func212 (by kernel_rfl) rfl) HS2.out (Below.refl _ _) (fun _ h=>h.elim) ?hV
   (xAr w w.heap.size (xbT N l)) (fun _ _ _=>False) ?hI (fun _ _ _ _ _ h _ _=>h) (fun k S W h=>⟨trivial,h.lt⟩) (fun b=>b=w.heap.size) ?hS0 ?h0 (fun _ _ _ _ _ _ _ _=>trivial) ?assign ?body ?done (fun _ _ _ _ _ _ h _=>h.elim)
  case hV=>rintro b (rfl|rfl) <;> omega
  case hI=>exact xo3 w _ _ _ (by omega)
  case hS0=>rintro b rfl;exact⟨by omega,by omega⟩
  case h0=>exact⟨_,_,HP2.out,fun b=>by unfold xpZ;simp[Value.ownBlock]⟩
  case assign =>
   intro lq k W' K hK
   simp only[List.setIfInBounds_toArray,List.set_cons_zero,List.set_cons_succ] at hK ⊢
   gi_wp2
   exact hK
  case body =>
   rintro lq k S W hlq ⟨vo,vs,hP,hS⟩ hk
   have hS':S=xpZ w.heap.size vo:=funext fun b=>propext (hS b)
   subst hS'
   clear hS
   have hkl:=(xqH N HN.out.1 k l).1 hk
   have hat:=xw8 N HN.out.1 k l hkl
   have hne:l≠[]:=by rintro rfl;simp at hkl
   have ha:=HA.out hne
   subst ha
   have hx:=xyo (HV.out.below hP.bel) N k hkl
   have hpl:((l.drop (k*N)).take N).length≤200:=by rw[List.length_take,List.length_drop];omega
   have hnx:(xbT N l).take (k+1)=(xbT N l).take k++[(l.drop (k*N)).take N]:=by rw[List.take_add_one,hat];rfl
   have hvl:vs.length≤1000000:=by
    have:=hP.pcs.1
    rw[List.length_take] at this
    have:=xgk N HN.out.1 l
    omega
   have HCL:=lH (fun X (hX:Below W.heap.size W X)=>xhT (chV g off l.length N k) ((l.drop (k*N)).take N) X (hx.below hX) (by omega))
   have HNX:=lH hnx
   obtain⟨ax,cx,hcv⟩:=xak hx
   obtain⟨av,cv,rfl⟩:=hP.row.slice
   have HP:=lH hP
   have hdb:Below W.heap.size W W.drew:=Below.drew (Below.refl _ _)
   have hdc:=(hP.bx.cell:W.drew.cell? _=_)
   have hdf:=(hP.bx.frozen:W.drew.frozen? _=_)
   have HVL:=lH hvl
   unfold xfk at HCL
   clear hkl hat hne hx hnx hP hvl hk
   generalize (l.drop (k*N)).take N=p at *
   generalize chV g off l.length N k=cvx at *
   subst hcv
   generalize p.length=pl at *
   have HCL2:=lH (HCL.out _ hdb)
   clear hdb HCL
   simp only[List.setIfInBounds_toArray,List.set_cons_zero,List.set_cons_succ]
   gi_wp2
   refine xju (by kernel_rfl) (by kernel_rfl) (by rintro⟨a,w,h⟩;exact h) ?_
   change wpAny _ _ _ _ _ _ _ W.drew
   refine wpAny_take (i:=1) (v:=?_) rfl (by kernel_rfl) (by kernel_rfl) (by kernel_rfl) (fun _ _ _ h=>h) (Or.inl ⟨by rfl,?y1⟩) ?_
   case y1=>intro w;go_simp;try with_reducible rfl
   try simp only[Act.put,zsA,zsB,zsC]
   refine wpAny_ready (rs:=[0,2]) (by kernel_rfl) (by simp) ?_
   refine AllReady.cons rfl (fun K hK=>?_) (AllReady.cons rfl (fun K hK=>?_) AllReady.nil)
   ·go_simp
    refine hK _ _ ?_
    clear hK K
    try simp only[Act.put,zsA,zsB,zsC]
    refine wpAny_ready (rs:=[2]) (by kernel_rfl) (by simp) ?_
    refine AllReady.cons rfl (fun K hK=>?_) AllReady.nil
    go_simp
    refine HCL2.out.mono ?_
    rintro e w3 ⟨v3,rfl,he3,hk3,hb3⟩
    have hbW:Below W.heap.size W w3:=(Below.drew (Below.refl _ _)).trans (hb3:Below W.heap.size W.drew w3)
    obtain⟨a3,c3,rfl⟩:=xak he3
    have hcc:=(HP.out.bx.cell)
    have hw3:w3.cell? ⟨w.heap.size,0,none⟩=some _:=xaa hbW hcc
    have hba3:Below W.heap.size W (w3.alloc (.cells #[.slice a3 p.length c3] 84)):=hbW.alloc hbW.size _
    have hw4:(w3.alloc (.cells #[.slice a3 p.length c3] 84)).cell? ⟨w.heap.size,0,none⟩=some _:=xaa hba3 hcc
    obtain⟨v5,w5,hr5,ho5,hg5,hl5⟩:=xfG (w3.alloc (.cells #[.slice a3 p.length c3] 84)) (w.heap.size+1) 156 (.slice av vs.length cv) (.slice a3 p.length c3) vs w3.heap.size 1 (HP.out.row.below hba3) (by simp) rfl HVL.out (by have:=hba3.size;have:=HP.out.bx.lt;omega)
    obtain⟨hst,hkp,hb5⟩:=HP.out.step hbW he3 hk3 ho5 hg5 hl5
    have f5c:=hb5.cell
    have f5f:=hb5.frozen
    obtain⟨a5,c5,hq5⟩:=ho5.slice
    rw[List.length_append,List.length_singleton] at hq5
    subst hq5
    rw[← HNX.out] at hst
    have HN:Hid (xAr w w.heap.size (xbT N l) (k+1) (xpZ w.heap.size (.slice a5 (vs.length+1) c5)) (w5.setCell ⟨w.heap.size,0,none⟩ (.slice a5 (vs.length+1) c5))∧KeepsS (xpZ w.heap.size (.slice av vs.length cv)) (xpZ w.heap.size (.slice a5 (vs.length+1) c5)) W (w5.setCell ⟨w.heap.size,0,none⟩ (.slice a5 (vs.length+1) c5))):=lH ⟨⟨_,_,hst,fun b=>Iff.rfl⟩,hkp⟩
    clear hst hkp hb5 ho5 hg5 hl5 he3 hk3 hb3 hbW hba3 hcc
    go_wp2_with fail
    try simp only[Act.put,zsA,zsB,zsC]
    refine wpAny_ready (rs:=[3]) (by kernel_rfl) (by simp) ?_
    refine AllReady.cons rfl (fun K hK=>?_) AllReady.nil
    go_simp
    refine hK _ _ ?_
    clear hK K
    try simp only[Act.put,zsA,zsB,zsC]
    refine wpAny_ready (rs:=[4]) (by kernel_rfl) (by simp) ?_
    refine AllReady.cons rfl (fun K hK=>?_) AllReady.nil
    refine Lib.wp_append_run _ _ _ _ _ rfl _ _ rfl rfl _ _ hr5 ?_
    refine hK _ _ ?_
    clear hK K
    try simp only[Act.put,zsA,zsB,zsC]
    refine wpAny_ready (rs:=[5]) (by kernel_rfl) (by simp) ?_
    refine AllReady.cons rfl (fun K hK=>?_) AllReady.nil
    go_simp
    refine hK _ _ ?_
    clear hK K
    try simp only[Act.put,zsA,zsB,zsC]
    refine wpAny_done (by kernel_rfl) ?_ _
    exact⟨_,HN.out⟩
   ·go_simp
    refine HCL2.out.mono ?_
    rintro e w3 ⟨v3,rfl,he3,hk3,hb3⟩
    have hbW:Below W.heap.size W w3:=(Below.drew (Below.refl _ _)).trans (hb3:Below W.heap.size W.drew w3)
    obtain⟨a3,c3,rfl⟩:=xak he3
    have hcc:=(HP.out.bx.cell)
    have hw3:w3.cell? ⟨w.heap.size,0,none⟩=some _:=xaa hbW hcc
    have hba3:Below W.heap.size W (w3.alloc (.cells #[.slice a3 p.length c3] 84)):=hbW.alloc hbW.size _
    have hw4:(w3.alloc (.cells #[.slice a3 p.length c3] 84)).cell? ⟨w.heap.size,0,none⟩=some _:=xaa hba3 hcc
    obtain⟨v5,w5,hr5,ho5,hg5,hl5⟩:=xfG (w3.alloc (.cells #[.slice a3 p.length c3] 84)) (w.heap.size+1) 156 (.slice av vs.length cv) (.slice a3 p.length c3) vs w3.heap.size 1 (HP.out.row.below hba3) (by simp) rfl HVL.out (by have:=hba3.size;have:=HP.out.bx.lt;omega)
    obtain⟨hst,hkp,hb5⟩:=HP.out.step hbW he3 hk3 ho5 hg5 hl5
    have f5c:=hb5.cell
    have f5f:=hb5.frozen
    obtain⟨a5,c5,hq5⟩:=ho5.slice
    rw[List.length_append,List.length_singleton] at hq5
    subst hq5
    rw[← HNX.out] at hst
    have HN:Hid (xAr w w.heap.size (xbT N l) (k+1) (xpZ w.heap.size (.slice a5 (vs.length+1) c5)) (w5.setCell ⟨w.heap.size,0,none⟩ (.slice a5 (vs.length+1) c5))∧KeepsS (xpZ w.heap.size (.slice av vs.length cv)) (xpZ w.heap.size (.slice a5 (vs.length+1) c5)) W (w5.setCell ⟨w.heap.size,0,none⟩ (.slice a5 (vs.length+1) c5))):=lH ⟨⟨_,_,hst,fun b=>Iff.rfl⟩,hkp⟩
    clear hst hkp hb5 ho5 hg5 hl5 he3 hk3 hb3 hbW hba3 hcc
    go_wp2_with fail
    try simp only[Act.put,zsA,zsB,zsC]
    refine wpAny_ready (rs:=[0,3]) (by kernel_rfl) (by simp) ?_
    refine AllReady.cons rfl (fun K hK=>?_) (AllReady.cons rfl (fun K hK=>?_) AllReady.nil)
    ·go_simp
     refine hK _ _ ?_
     clear hK K
     try simp only[Act.put,zsA,zsB,zsC]
     refine wpAny_ready (rs:=[3]) (by kernel_rfl) (by simp) ?_
     refine AllReady.cons rfl (fun K hK=>?_) AllReady.nil
     go_simp
     refine hK _ _ ?_
     clear hK K
     try simp only[Act.put,zsA,zsB,zsC]
     refine wpAny_ready (rs:=[4]) (by kernel_rfl) (by simp) ?_
     refine AllReady.cons rfl (fun K hK=>?_) AllReady.nil
     refine Lib.wp_append_run _ _ _ _ _ rfl _ _ rfl rfl _ _ hr5 ?_
     refine hK _ _ ?_
     clear hK K
     try simp only[Act.put,zsA,zsB,zsC]
     refine wpAny_ready (rs:=[5]) (by kernel_rfl) (by simp) ?_
     refine AllReady.cons rfl (fun K hK=>?_) AllReady.nil
     go_simp
     refine hK _ _ ?_
     clear hK K
     try simp only[Act.put,zsA,zsB,zsC]
     refine wpAny_done (by kernel_rfl) ?_ _
     exact⟨_,HN.out⟩
    ·go_simp
     refine hK _ _ ?_
     clear hK K
     try simp only[Act.put,zsA,zsB,zsC]
     refine wpAny_ready (rs:=[0]) (by kernel_rfl) (by simp) ?_
     refine AllReady.cons rfl (fun K hK=>?_) AllReady.nil
     go_simp
     refine hK _ _ ?_
     clear hK K
     try simp only[Act.put,zsA,zsB,zsC]
     refine wpAny_ready (rs:=[4]) (by kernel_rfl) (by simp) ?_
     refine AllReady.cons rfl (fun K hK=>?_) AllReady.nil
     refine Lib.wp_append_run _ _ _ _ _ rfl _ _ rfl rfl _ _ hr5 ?_
     refine hK _ _ ?_
     clear hK K
     try simp only[Act.put,zsA,zsB,zsC]
     refine wpAny_ready (rs:=[5]) (by kernel_rfl) (by simp) ?_
     refine AllReady.cons rfl (fun K hK=>?_) AllReady.nil
     go_simp
     refine hK _ _ ?_
     clear hK K
     try simp only[Act.put,zsA,zsB,zsC]
     refine wpAny_done (by kernel_rfl) ?_ _
     exact⟨_,HN.out⟩
  case done =>
   rintro D S W hD hSD ⟨vo,vs,hP,hS⟩ _ hDW
   rw[List.take_length] at hP
   obtain⟨av,cv,rfl⟩:=hP.row.slice
   have hvc:=hP.bx.cell
   have HH:=lH (And.intro hD (And.intro hDW hP))
   clear hP hS hDW hD
   gi_wp2
   obtain⟨h1,h2,h3⟩:=HH.out
   refine⟨by simp,.inl ⟨_,_,rfl,run_takeDeferred h2,?_⟩⟩
   have hR:=h3.grown (grownBy_putObj' _ D (.deferred none)) (fun r e=>by cases e;exact⟨by omega,_,h2,rfl⟩)
   exact⟨_,results_tmp rfl _ _ _,_,rfl,by rw[HZ.out];exact⟨vs,hR.row.valsAt,hR.pcs⟩,hR.bel⟩
end Go.Proofs.YtjkgkmmkehnggaaGreatDoor
namespace Go.Proofs.YtjkgkmmkehnggaaGreatDoor
set_option linter.unusedVariables false
set_option linter.unusedSimpArgs false
set_option maxRecDepth 20000
def noB:ByteArray:=ByteArray.mk #[]
def xtM (budget:Int) (ps:List (List En)):Bool:=decide (∀ p ∈ ps,(xau p).length≤65536) && decide (xfR (xaC 0 ps)≤budget)
def goS (l:List En) (budget:Int):Nat→Nat→Option Nat
 | 0,_=>none
 | f+1,n=>if xtM budget (xbT n l) then some n else goS l budget f (2*n)
structure Sp where
 root:List En
 text:ByteArray
 size:Int
 err:Int
def xaq (l:List En) (budget:Int):Sp :=
 if budget<1∨16257<budget then ⟨[],noB,0,2⟩ else if xa2 l≠0 then ⟨[],noB,0,xa2 l⟩ else if xal l≠[] then ⟨[],noB,0,14⟩ else
 if xfR l≤budget then ⟨l,noB,0,0⟩ else match goS l budget 13 1 with
 | some n=>⟨xaC 0 (xbT n l),str (xaI (xbT n l)),n,0⟩
 | none=>⟨[],noB,0,15⟩
def xd1 (e:En) (d:ByteArray):List En × Int :=
 if (d.size:Int)<e.off+e.ln then ([],8) else
 if (xco (d.extract e.off.toNat (e.off+e.ln).toNat).data.toList).2.2≠0 then ([],(xco (d.extract e.off.toNat (e.off+e.ln).toNat).data.toList).2.2) else
 if xal (xco (d.extract e.off.toNat (e.off+e.ln).toNat).data.toList).1≠[] then ([],20) else
 if (xco (d.extract e.off.toNat (e.off+e.ln).toNat).data.toList).1=[]∨(gS (xco (d.extract e.off.toNat (e.off+e.ln).toNat).data.toList).1 0).id≠e.id then ([],10) else ((xco (d.extract e.off.toNat (e.off+e.ln).toNat).data.toList).1,0)
def goJ:List En→ByteArray→List En→List En × Int
 | [],_,out=>(out,0)
 | e :: l,d,out=>if 0<e.rn then goJ l d (out++[e]) else if (xd1 e d).2≠0 then ([],(xd1 e d).2) else goJ l d (out++(xd1 e d).1)
def xpd (root:List En) (d:ByteArray):List En × Int :=
 if xa2 root≠0 then ([],xa2 root) else if (goJ root d []).2≠0 then ([],(goJ root d []).2) else
 if xa2 (goJ root d []).1≠0 then ([],xa2 (goJ root d []).1) else ((goJ root d []).1,0)
theorem xmT (l:List En) (budget:Int):∀ (f n m:Nat),1≤n→goS l budget f n=some m→1≤m∧xtM budget (xbT m l)=true
 | f+1,n,m,hn,h=>by
  rw[goS] at h
  split at h
  ·rename_i hf
   cases h
   exact⟨hn,hf⟩
  ·exact xmT l budget f (2*n) m (by omega) h
theorem xex {l:List En} {budget:Int} (h:(xaq l budget).err=0):1≤budget∧budget≤16257∧xa2 l=0∧xal l=[] ∧
  ((xfR l≤budget∧xaq l budget=⟨l,noB,0,0⟩)∨(¬ xfR l≤budget∧∃ n,1≤n∧xtM budget (xbT n l)=true∧xaq l budget=⟨xaC 0 (xbT n l),str (xaI (xbT n l)),n,0⟩)):=by
 unfold xaq at h ⊢
 by_cases h1:budget<1∨16257<budget
 ·rw[if_pos h1] at h;cases h
 rw[if_neg h1] at h ⊢
 by_cases h2:xa2 l≠0
 ·rw[if_pos h2] at h;exact absurd h h2
 rw[if_neg h2] at h ⊢
 by_cases h3:xal l≠[]
 ·rw[if_pos h3] at h;cases h
 rw[if_neg h3] at h ⊢
 refine⟨by omega,by omega,Classical.not_not.1 h2,Classical.not_not.1 h3,?_⟩
 by_cases h4:xfR l≤budget
 ·rw[if_pos h4];exact .inl ⟨h4,rfl⟩
 rw[if_neg h4] at h ⊢
 right
 refine⟨h4,?_⟩
 cases hg:goS l budget 13 1 with
 | none=>rw[hg] at h;cases h
 | some n =>
  obtain⟨g1,g2⟩:=xmT l budget 13 1 n (by omega) hg
  exact⟨n,g1,g2,rfl⟩
theorem xux {a m b:List En} (hm:∀ e ∈ a++m++b,xa1 e) (h:xa2 (a++m++b)=0):xa2 m=0:=by
 have h1:=xuW h (a++m).length
 rw[List.take_left'  rfl] at h1
 have h2:=xwc (fun e he=>hm e (by simp at he ⊢;rcases he with he|he;exact .inl he;exact .inr (.inl he))) h1 a.length
 rwa[List.drop_left' rfl] at h2
theorem xlr {a m b:List En} (h:xal (a++m++b)=[]):xal m=[]:=by
 unfold xal at h ⊢
 rw[List.filter_append,List.filter_append] at h
 simp only[List.append_eq_nil_iff] at h
 exact h.1.2
theorem xyL (a b c:List Int):(str (a++b++c)).extract a.length (a.length+b.length)=str b:=by
 apply ByteArray.ext
 apply Array.ext'
 rw[ByteArray.data_extract,Array.toList_extract,xbF,xbF]
 simp[List.extract_eq_take_drop]
theorem xjq (p:List En):(str (xau p)).data.toList=xck p:=by rw[xbF,xhH];rfl
theorem xou {m:List En} (pre post:List Int) (hm:∀ e ∈ m,xa1 e) (hr:xa2 m=0) (hl:xal m=[]) (hn:m≠[]) (ht:(xau m).length≤65536) :
  xd1 ⟨(gS m 0).id,pre.length,(xau m).length,0⟩ (str (pre++xau m++post))=(m,0):=by
 have hx:(str (pre++xau m++post)).extract ((pre.length:Int)).toNat ((pre.length:Int)+((xau m).length:Int)).toNat=str (xau m):=by
  rw[Int.toNat_natCast,show ((pre.length:Int)+((xau m).length:Int)).toNat=pre.length+(xau m).length by omega]
  exact xyL pre (xau m) post
 have hd:xco (xck m)=(m,(xck m).length,0):=xk1 m hm hr (by rw[← xdq];exact ht)
 unfold xd1
 simp only
 rw[if_neg (by rw[xbv];simp only[List.length_append];omega),hx,xjq,hd]
 simp only
 rw[if_neg (by simp),if_neg (by simpa using hl),if_neg (by intro h;rcases h with h|h;exact hn h;exact h rfl)]
theorem xmI:∀ (ps:List (List En)) (pre:List Int) (out:List En),(∀ p ∈ ps,(∀ e ∈ p,xa1 e)∧xa2 p=0∧xal p=[]∧p≠[]∧(xau p).length≤65536) →
  goJ (xaC pre.length ps) (str (pre++xaI ps)) out=(out++ps.flatten,0)
 | [],pre,out,_=>by simp[xaC,goJ]
 | p :: ps,pre,out,h=>by
  obtain⟨h1,h2,h3,h4,h5⟩:=h p (by simp)
  have hp:=xou pre (xaI ps) h1 h2 h3 h4 h5
  have ih:=xmI ps (pre++xau p) (out++p) (fun q hq=>h q (by simp[hq]))
  rw[xbN,← List.append_assoc,xaC,goJ,if_neg (by simp),hp]
  rw[List.length_append] at ih
  simp only[ne_eq,not_true_eq_false,if_false]
  rw[ih,List.flatten_cons,List.append_assoc]
theorem xkb:∀ (l:List En) (d:ByteArray) (out:List En),xal l=[]→(∀ e ∈ l,0≤e.rn)→goJ l d out=(out++l,0)
 | [],d,out,_,_=>by simp[goJ]
 | e :: l,d,out,h,hm=>by
  unfold xal at h
  rw[List.filter_eq_nil_iff] at h
  have h1:=h e (by simp)
  have h2:=hm e (by simp)
  simp only[decide_eq_true_eq] at h1
  rw[goJ,if_pos (by omega),xkb l d _ (by unfold xal;rw[List.filter_eq_nil_iff];exact fun x hx=>h x (by simp[hx])) (fun x hx=>hm x (by simp[hx]))]
  simp
theorem xnS {l:List En} (n:Nat) (hn:1≤n) (hm:∀ e ∈ l,xa1 e) (hr:xa2 l=0) (hl:xal l=[]):∀ p ∈ xbT n l,(∀ e ∈ p,xa1 e)∧xa2 p=0∧xal p=[]∧p≠[]:=by
 intro p hp
 obtain⟨P1,P2,he⟩:=List.append_of_mem hp
 have hf:=xcx n hn l
 rw[he,List.flatten_append,List.flatten_cons,← List.append_assoc] at hf
 have hm':∀ e ∈ P1.flatten++p++P2.flatten,xa1 e:=by rw[hf];exact hm
 exact⟨fun e h=>hm' e (by simp[h]),xux hm' (by rw[hf];exact hr),xlr (a:=P1.flatten) (b:=P2.flatten) (by rw[hf];exact hl),(xjc n hn l p hp).1⟩
theorem xos {l:List En} {budget:Int} (hm:∀ e ∈ l,xa1 e) (hl:l.length≤5000) (h:(xaq l budget).err=0):xpd (xaq l budget).root (xaq l budget).text=(l,0):=by
 obtain⟨_,_,h1,h2,h3⟩:=xex h
 rcases h3 with ⟨_,h3⟩|⟨_,n,hn,hf,h3⟩
 ·rw[h3]
  unfold xpd
  rw[if_neg (by simpa using h1),xkb l _ _ h2 (fun e he=>(hm e he).2.2.2.1)]
  simp[h1]
 ·rw[h3]
  have hrow:=xhU n hn hm h1 hl
  unfold xtM at hf
  rw[Bool.and_eq_true] at hf
  have hsz:=of_decide_eq_true hf.1
  have hg:=xmI (xbT n l) [] [] (fun p hp=>by
   obtain⟨a,b,c,d⟩:=xnS n hn hm h1 h2 p hp
   exact⟨a,b,c,d,hsz p hp⟩)
  rw[List.nil_append,List.nil_append,xcx n hn,List.length_nil] at hg
  unfold xpd
  simp only
  rw[if_neg (by simpa using hrow),hg]
  simp[h1]
end Go.Proofs.YtjkgkmmkehnggaaGreatDoor
namespace Go.Proofs.YtjkgkmmkehnggaaGreatDoor
set_option linter.unusedVariables false
set_option linter.unusedSimpArgs false
open Go.RowKit
set_option maxRecDepth 20000
theorem xop (ps:List (List En)) (k:Nat) (p:List En) (h:ps[k]?=some p):xaC 0 (ps.take (k+1))=xaC 0 (ps.take k)++[⟨(gS p 0).id,(xaI (ps.take k)).length,(xau p).length,0⟩]:=by
 rw[List.take_add_one,h,Option.toList_some,xem,Nat.zero_add]
 rfl
theorem xo8 (ps:List (List En)) (k:Nat) (p:List En) (h:ps[k]?=some p):xaI (ps.take (k+1))=xaI (ps.take k)++xau p:=by
 rw[List.take_add_one,h,Option.toList_some,xeB]
 simp[xaI]
theorem xz0 {p:List En} (hr:xa2 p=0) (hl:p.length≤1000):xmr p=0∧xpX p=str (xau p)∧xfR p=(xau p).length:=by
 have h:=(xct p).2
 have h1:xmr p=0:=by unfold xmr;rw[if_pos hr,if_neg (by omega)]
 refine⟨h1,?_,?_⟩
 ·unfold xpX;rw[if_pos h1]
 ·unfold xfR;rw[if_pos hr]
theorem xpk (ps:List (List En)) (k:Nat):(xaI (ps.take k)).length≤(xaI ps).length:=by
 have h:=xeB (ps.take k) (ps.drop k)
 rw[List.take_append_drop] at h
 rw[h,List.length_append]
 omega
theorem xj8 (w:World) (e:En) (T:TypeId):xam (w.alloc (.cells (eC e) T)) (.slice (some ⟨w.heap.size,0,none⟩) 1 1) [e]:=by
 refine⟨_,1,rfl,by simp,by unfold maxLen;omega,fun k t ht=>?_⟩
 cases k with
 | zero =>
  simp at ht
  subst ht
  obtain⟨h0,h1,h2,h3⟩:=EAt.made w e T
  exact⟨w.heap.size,0,rfl,by simp,by simpa using h0,by simpa using h1,by simpa using h2,by simpa using h3⟩
 | succ k=>simp at ht
theorem xcD {fn:Func} {t u v x:Tmp} (h:fn.results=#[.tmp t,.tmp u,.tmp v,.tmp x]) (tmps:Array Value) (P:Program) (w:World) :
  (results fn tmps).run P w=.ok (.tuple #[tmps.getD t undef,tmps.getD u undef,tmps.getD v undef,tmps.getD x undef]) w:=by
 simp[results,h]
def xr2 (l:List En) (budget:Int) (w:World) (e:Ending) (w':World):Prop:=∃ v',e=.returned (.tuple #[v',.string (xaq l budget).text,.int .i64 (xaq l budget).size,.int .i64 (xaq l budget).err])∧xam w' v' (xaq l budget).root∧Below w.heap.size w w'
theorem xvH (l:List En) (budget:Int) (f n:Nat):goS l budget (f+1) n=if xtM budget (xbT n l) then some n else goS l budget f (2*n):=rfl
theorem xld {l:List En} (n:Nat) (hn:1≤n) (hl:l.length≤150) (budget:Int):xtM budget (xbT n l)=decide (xfR (xaC 0 (xbT n l))≤budget):=by
 unfold xtM
 rw[decide_eq_true,Bool.true_and]
 intro p hp
 have h1:=(xct p).2
 have h2:p.length≤l.length:=by
  obtain⟨P1,P2,he⟩:=List.append_of_mem hp
  rw[← xcx n hn l,he]
  simp
  omega
 omega
theorem xoW {l:List En} {b:Int} (h:¬ (b<1∨16257<b)) (h1:xa2 l=0) (h2:xal l=[]) (h3:xfR l≤b):xaq l b=⟨l,noB,0,0⟩:=by unfold xaq;rw[if_neg h,if_neg (by simpa using h1),if_neg (by simpa using h2),if_pos h3]
theorem xob {l:List En} {b:Int} {n:Nat} (h:¬ (b<1∨16257<b)) (h1:xa2 l=0) (h2:xal l=[]) (h3:¬ xfR l≤b) (h4:goS l b 13 1=some n):xaq l b=⟨xaC 0 (xbT n l),str (xaI (xbT n l)),n,0⟩:=by unfold xaq;rw[if_neg h,if_neg (by simpa using h1),if_neg (by simpa using h2),if_neg h3,h4]
theorem xoF {l:List En} {b:Int} (h:¬ (b<1∨16257<b)) (h1:xa2 l=0) (h2:xal l=[]) (h3:¬ xfR l≤b) (h4:goS l b 13 1=none):xaq l b=⟨[],noB,0,15⟩:=by unfold xaq;rw[if_neg h,if_neg (by simpa using h1),if_neg (by simpa using h2),if_neg h3,h4]
theorem xxG:∀ j,j<14→(2 ^ (13 - j)≤4096↔1≤j)∧1≤2 ^ (13 - j)∧2 ^ (13 - j)≤8192:=by decide
theorem xul:∀ j,j<13→2*2 ^ (13 - (j+1))=2 ^ (13 - j):=by decide
end Go.Proofs.YtjkgkmmkehnggaaGreatDoor
