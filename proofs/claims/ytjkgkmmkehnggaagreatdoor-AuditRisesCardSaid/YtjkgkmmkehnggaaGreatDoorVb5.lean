/- bNb bMT bQd bNc bUb bUe bUf bNf. -/
import Derived.Test.YtjkgkmmkehnggaaGreatDoorVb4
import Derived.Test.YtjkgkmmkehnggaaGreatDoorVs
namespace Go.Proofs.YtjkgkmmkehnggaaGreatDoor
set_option linter.unusedVariables false
set_option linter.unusedSimpArgs false
open Go.RowKit Go.Shelf
set_option maxRecDepth 20000
attribute [local go_sem] Oper.semAt_some
theorem cut_lt (n:Nat) (hn:1≤n):∀ (k:Nat) (l:List En),k<(cutN n l).length↔k*n<l.length
 | 0,l=>by
  cases l with
  | nil=>simp[cutN_nil]
  | cons e l=>rw[cutN_step n hn _ (by simp)];simp
 | k+1,l=>by
  by_cases h:l=[]
  ·subst h;simp[cutN_nil]
  ·rw[cutN_step n hn l h,List.length_cons,Nat.add_lt_add_iff_right,cut_lt n hn k (l.drop n),List.length_drop,Nat.succ_mul]
   omega
theorem cut_at (n:Nat) (hn:1≤n):∀ (k:Nat) (l:List En),k*n<l.length→(cutN n l)[k]?=some ((l.drop (k*n)).take n)
 | 0,l,h=>by
  have h0:l≠[]:=by intro e;rw[e] at h;simp at h
  rw[cutN_step n hn l h0];simp
 | k+1,l,h=>by
  have h0:l≠[]:=by intro e;rw[e] at h;simp at h
  rw[cutN_step n hn l h0,List.getElem?_cons_succ,cut_at n hn k (l.drop n) (by rw[List.length_drop];rw[Nat.succ_mul] at h;omega),List.drop_drop,Nat.succ_mul,Nat.add_comm n]
def chV (g off len n k:Nat):Value:=.slice (some ⟨g,off+k*n*4,none⟩) (min n (len - k*n)) (min n (len - k*n))
theorem chV_ens {W:World} {l:List En} {g off cap:Nat} (h:EnsAt W (.slice (some ⟨g,off,none⟩) l.length cap) l) (n k:Nat) (hk:k*n<l.length):EnsAt W (chV g off l.length n k) ((l.drop (k*n)).take n):=by
 have h1:=h.dropS (k*n) (Nat.le_of_lt hk)
 rw[← List.length_drop] at h1
 have h2:=h1.takeS (min n (l.length - k*n)) (by rw[List.length_drop];omega)
 have hl:((l.drop (k*n)).take n).length=min n (l.length - k*n):=by rw[List.length_take,List.length_drop]
 have hm:(l.drop (k*n)).take (min n (l.length - k*n))=(l.drop (k*n)).take n:=by
  rw[List.take_eq_take_iff,List.length_drop];omega
 rw[hm] at h2
 unfold chV
 generalize min n (l.length - k*n)=m at *
 obtain⟨a,c,e,g1,g2,hc⟩:=h2
 injection e with e1 e2 e3
 subst e1
 exact⟨_,_,by rw[hl],by rw[hl];exact Nat.le_refl _,by rw[hl] at g1;omega,hc⟩
set_option maxHeartbeats 4000000 in
set_option maxRecDepth 100000 in
theorem chunk1_seq (l:List En) (g off cap n B0 B1:Nat) (a:Option Addr) (w:World) (hn:1≤n∧n≤9223372036854775807) (ha:l≠[]→a=some ⟨g,off,none⟩) (hcap:l.length≤cap) (hmx:cap≤maxLen) (hll:l.length≤1000000)
  (h0:w.cell? ⟨B0,0,none⟩=some (.slice a l.length cap)) (h1:w.cell? ⟨B1,0,none⟩=some (.int .i64 n)) :
  SeqDBb Tryz.prog 212 #[.pointer (some ⟨B0,0,none⟩),.pointer (some ⟨B1,0,none⟩)] (fun k=>#[chV g off l.length n k]) (cutN n l).length (fun _=>False) (fun b=>b=B0∨b=B1) (fun _ _=>True) (fun _=>True) w:=by
 intro n0 lp J Jx S0 W hW hJ hJx hG hS0 hY hj0
 have hn0:¬ S0 B0:=fun h=>(hS0 _ h).2 (.inl rfl)
 have hn1:¬ S0 B1:=fun h=>(hS0 _ h).2 (.inr rfl)
 have g0:=ecell_later hW h0
 have g1:=ecell_later hW h1
 unfold maxLen at hmx
 have HJ:=Lib.hid hJ
 have HG:=Lib.hid hG
 have HY:=Lib.hid hY
 have HN0:=Lib.hid hn0
 have HN1:=Lib.hid hn1
 have HA:=Lib.hid ha
 have HG0:=Lib.hid g0
 have HG1:=Lib.hid g1
 have HLT:=Lib.hid (fun k=>cut_lt n hn.1 k l)
 have HCL:Hid ((cutN n l).length=(cutN n l).length):=Lib.hid rfl
 clear hJ hY hS0 hJx hn0 hn1 hG ha h0 h1
 refine callsIn_of_wp Tryz.func212 rfl trivial ?_ rfl
 simp only[Tryz.ntmps212,List.size_toArray,List.length_cons,List.length_nil,Nat.reduceAdd,Nat.reduceSub,Array.replicate_succ,Array.replicate_zero,List.push_toArray,List.append_toArray,List.nil_append,List.cons_append]
 clear g0 g1
 gi_wp2
 gi_loopw [4] (fun i wr=>∃ k q:Nat,Hid (q=k*n)∧i=.int .i64 (q:Int)∧Hid (k≤(cutN n l).length)∧∃ S,Hid (J k S wr)∧Hid (KeepsS S0 S W wr)) (fun i _=>l.length - (intOf i).toNat)
 case atStart=>exact⟨0,0,Lib.hid (by rw[Nat.zero_mul]),rfl,Lib.hid (Nat.zero_le _),S0,Lib.hid hj0,Lib.hid (.refl _ _)⟩
 case round =>
  obtain⟨k,q,HQ,rfl,HKL,S,HJs,HK⟩:=hrel
  have c0:=HK.out.cell (p:=⟨B0,0,none⟩) HN0.out HG0.out
  have c1:=HK.out.cell (p:=⟨B1,0,none⟩) HN1.out HG1.out
  by_cases hlt:q<l.length
  ·have hne:l≠[]:=by rintro rfl;simp at hlt
   have ha:=HA.out hne
   subst ha
   have hkl:=(HLT.out k).2 (by rw[← HQ.out];exact hlt)
   have HKN:=Lib.hid hkl
   have hJd:J k S wr.drew:=HJ.out.grow (s:=(k,S)) HJs.out (Below.drew (Below.refl _ _))
   have HJD:=Lib.hid hJd
   have HKD:=Lib.hid (KeepsS.below S (Below.drew (Below.refl wr.heap.size wr)))
   have d0:=ecell_later (Below.drew (Below.refl wr.heap.size wr)) c0
   have d1:=ecell_later (Below.drew (Below.refl wr.heap.size wr)) c1
   have hq1:(q:Int)<(l.length:Int):=by omega
   have hq2:(q:Int)≤(l.length:Int):=by omega
   have hq3:¬ cap - q=0:=by omega
   obtain⟨m,hm⟩:∃ m:Nat,min n (l.length - q)=m:=⟨_,rfl⟩
   have hm2:(if l.length - q<n then ((l.length - q:Nat):Int) else (n:Int))=(m:Int):=by split <;> omega
   have hm3:m≤l.length - q:=by omega
   have hm4:1≤m:=by omega
   have hw1:IntKind.i64.wrap ((q:Int)+(m:Int))=((q+m:Nat):Int):=by rw[IntKind.wrap_i64] <;> omega
   have hw2:IntKind.i64.wrap ((q:Int)+(n:Int))=((q+n:Nat):Int):=by
    have:=HQ.out
    cases k with
    | zero=>rw[IntKind.wrap_i64] <;> omega
    | succ k=>rw[Nat.succ_mul] at this;rw[IntKind.wrap_i64] <;> omega
   have hv:chV g off l.length n k=.slice (some ⟨g,off+q*4,none⟩) m m:=by unfold chV;rw[← HQ.out,hm]
   obtain⟨fn,tmps,assign,body,hy,hR⟩:=HY.out _ S _ HJD.out hkl
   rw[hv] at hy
   have HR:=Lib.hid hR
   have HM:=Lib.hid hm
   have HM2:=Lib.hid (And.intro hm2 (show min (n:Int) ((l.length - q:Nat):Int)=(m:Int) by omega))
   clear hkl hJd hne hR hv hm hm2
   gi_wp2
   gi_region
   first|rw[HM2.out.1]|rw[HM2.out.2]
   gi_wp2
   refine⟨noDepth,HR.out.mono ?_⟩
   rintro x W3 (⟨rfl,S3,hJ3,hk3⟩|⟨rfl,hJx3,_⟩)
   ·have HJ3:=Lib.hid hJ3
    have HK3:=Lib.hid ((HK.out.trans HKD.out).trans hk3)
    have e1:=HK3.out.cell (p:=⟨B1,0,none⟩) HN1.out HG1.out
    have HQ2:Hid (q+n=(k+1)*n):=Lib.hid (by rw[Nat.succ_mul,← HQ.out])
    have hme:l.length - (q+n)<l.length - q:=by omega
    clear hJ3 hk3 c0 c1 d0 d1 HK HKD HJD HJs hy HR HM HM2 HN0 HA
    gi_wp2
    go_roundw
    case rel=>exact⟨k+1,q+n,HQ2,by first|rfl|(push_cast;rfl),Lib.hid HKN.out,S3,HJ3,HK3⟩
    case measure=>simp[intOf];omega
   ·have HJ3:=Lib.hid hJx3
    clear hJx3 c0 c1 d0 d1 HK HKD HJD HJs hy HR HM HM2 HN0 HA
    gi_wp2
    refine bodyPost_ret (results_none rfl _ _ _) rfl ?_
    exact⟨⟨_,rfl⟩,.inr ⟨k+1,HKN.out,HJ3.out⟩⟩
  ·have hq1:¬ (q:Int)<(l.length:Int):=by omega
   have HKE:Hid (k=(cutN n l).length):=Lib.hid (by
    have h1:=HKL.out
    have h2:=mt (HLT.out k).1 (by rw[← HQ.out];exact hlt)
    omega)
   gi_wp2
   go_end0
   have hjz:J (cutN n l).length S wr:=by rw[← HKE.out];exact HJs.out
   first|exact⟨⟨_,rfl⟩,.inl ⟨S,hjz,trivial⟩⟩|exact⟨⟨_,rfl⟩,.inl ⟨S,hjz⟩⟩
theorem chunk_any (v:Value) (l:List En) (n:Nat) (w:World) (hv:EnsAt w v l) (hn:1≤n∧n≤9223372036854775807) :
  Calls Tryz.prog 143 #[v,.int .i64 n] w fun e w'=>e=.returned (.func (.func 212) #[] #[.pointer (some ⟨w.heap.size,0,none⟩),.pointer (some ⟨w.heap.size+1,0,none⟩)])∧w'.cell? ⟨w.heap.size,0,none⟩=some v∧w'.cell? ⟨w.heap.size+1,0,none⟩=some (.int .i64 n)∧Below w.heap.size w w':=by
 obtain⟨av,cv,rfl⟩:=ensAt_form hv
 clear hv
 have hn1:¬ (n:Int)<1:=by omega
 have d1:decide ((n:Int)<1)=false:=decide_eq_false hn1
 go_enter Tryz.func143,Tryz.ntmps143
 go_wp2_with fail
 go_ret
 exact⟨rfl,by simp,by simp,by go_grown⟩
end Go.Proofs.YtjkgkmmkehnggaaGreatDoor
namespace Go.Proofs.YtjkgkmmkehnggaaGreatDoor
set_option linter.unusedVariables false
set_option linter.unusedSimpArgs false
open Go.RowKit
set_option maxRecDepth 20000
open Go.RowKit
set_option maxRecDepth 20000
theorem info_pv:(Tryz.prog.info? 147).map (fun i=>(i.zero,i.size,i.bytes))=some (some (.agg #[.int .u64 0,.int .u64 0,.int .u32 0,.int .u32 0]),4,24):=by kernel_rfl
end Go.Proofs.YtjkgkmmkehnggaaGreatDoor
namespace Go.Proofs.YtjkgkmmkehnggaaGreatDoor
set_option linter.unusedVariables false
set_option linter.unusedSimpArgs false
open Go.RowKit
def CloneEndBb (l:List En) (w:World) (x:Ending) (w':World):Prop:=∃ v',x=.returned v'∧EnsAt w' v' l∧(∀ a n c,v'=.slice (some a) n c→w.heap.size≤a.block∧a.block<w'.heap.size)∧Below w.heap.size w w'
theorem ens_news {W:World} {ad:Addr} {cap:Nat} {l:List En} (h:EnsAt W (.slice (some ad) l.length cap) l):∀ j u,(flat4 l)[j]?=some u→W.cell? (ad.add j)=some u:=by
 obtain⟨a,cap',he,h1,h2,hc⟩:=h
 cases he
 intro j u hu
 have hj:j<l.length*4:=by rw[← flat4_len];exact(List.getElem?_eq_some_iff.1 hu).1
 obtain⟨t,ht⟩:∃ t,l[j / 4]?=some t:=⟨_,List.getElem?_eq_getElem (by omega)⟩
 obtain⟨g,off,ha,_,c0,c1,c2,c3⟩:=hc (j / 4) t ht
 obtain⟨f0,f1,f2,f3⟩:=flat4_at l (j / 4) t ht
 injection ha with ha
 subst ha
 have hadd:(⟨g,off,none⟩:Addr).add j=⟨g,off+j,none⟩:=by simp[Addr.add]
 rw[hadd]
 rcases(by omega:j=j / 4*4∨j=j / 4*4+1∨j=j / 4*4+2∨j=j / 4*4+3) with e|e|e|e
 ·rw[e,f0] at hu;rw[← hu];rw[show off+j=off+j / 4*4 from by omega];exact c0
 ·rw[e,f1] at hu;rw[← hu];rw[show off+j=off+j / 4*4+1 from by omega];exact c1
 ·rw[e,f2] at hu;rw[← hu];rw[show off+j=off+j / 4*4+2 from by omega];exact c2
 ·rw[e,f3] at hu;rw[← hu];rw[show off+j=off+j / 4*4+3 from by omega];exact c3
theorem slice_some_eqBb (ad:Addr) (n c:Nat) (w:World):(Op.equal 84 (.slice (some ad) n c) (.slice none 0 0)).run Tryz.prog w=.ok false w:=by
 rw[Op.equal,show Op.maxDepth=9999+1 from rfl]
 unfold Op.equalIn
 simp[go_sem]
theorem slice_some_eqlBb (ad:Addr) (n c:Nat) (w:World):(binOp BinOp.eql 84 (.slice (some ad) n c) (.slice none 0 0)).run Tryz.prog w=.ok (.bool false) w:=by
 simp[binOp,go_sem,slice_some_eqBb]
theorem slice_none_eqBb (c:Nat) (w:World):(Op.equal 84 (.slice none 0 c) (.slice none 0 0)).run Tryz.prog w=.ok true w:=by
 rw[Op.equal,show Op.maxDepth=9999+1 from rfl]
 unfold Op.equalIn
 simp[go_sem]
theorem slice_none_eqlBb (c:Nat) (w:World):(binOp BinOp.eql 84 (.slice none 0 c) (.slice none 0 0)).run Tryz.prog w=.ok (.bool true) w:=by
 simp[binOp,go_sem,slice_none_eqBb]
set_option maxRecDepth 20000 in
set_option maxHeartbeats 1000000 in
theorem pclone_any (v:Value) (l:List En) (w:World) (hv:EnsAt w v l) (hl:l.length≤4096):Calls Tryz.prog 75 #[v] w (CloneEndBb l w):=by
 obtain⟨i0,hi,hz0,hz1,hz2⟩:=info_parts info_pv
 have HI0:=Lib.hid hi
 have HZ0:=Lib.hid hz0
 have HZ1:=Lib.hid hz1
 have HZ2:=Lib.hid hz2
 clear hi hz0 hz1 hz2
 have hv':=hv
 obtain⟨a,cap,rfl,h1,h2,hc⟩:=hv'
 cases a with
 | none =>
  have hl0:l=[]:=by
   cases l with
   | nil=>rfl
   | cons t l=>obtain⟨g,off,ha,_⟩:=hc 0 t rfl;cases ha
  subst hl0
  clear hc hv
  have hneq:=fun W=>slice_none_eqlBb cap W
  go_enter Tryz.func75,Tryz.ntmps75
  go_wp2_with fail
  go_ret
  exact⟨_,rfl,ens_nil _,fun a n c h=>(by cases h),Below.refl _ _⟩
 | some ad =>
  have HV:=Lib.hid hv
  have hneq:=fun W=>slice_some_eqlBb ad l.length cap W
  clear hc hv
  go_enter Tryz.func75,Tryz.ntmps75
  have HO:Hid ((w.alloc (.cells #[] 147)).ownsRow w.heap.size 147 4 (.slice (some ⟨w.heap.size,0,none⟩) 0 0) 0 (flat4 [])):=Lib.hid ⟨rfl,.inr ⟨w.heap.size,0,#[],rfl,Nat.le_refl _,heap_alloc_new w _,Nat.le_refl _,Nat.zero_le _,rfl,rfl⟩⟩
  have HNW:=Lib.hid (ens_news (HV.out.below ((Below.refl w.heap.size w).alloc (Nat.le_refl _) (.cells #[] 147))))
  go_wp2_with (first|(at_builtin;refine wpList_append_own _ rfl _ _ 84 rfl w.heap.size 147 i0 (.agg #[.int .u64 0,.int .u64 0,.int .u32 0,.int .u32 0]) 4 24 Tryz.underlying84 HI0.out HZ0.out HZ1.out HZ2.out rfl (by decide) _ _ _ rfl HO.out ad l.length cap (flat4 l) rfl (flat4_len l) HNW.out (flat4_cells l) ?c4 ?c5 ?c6 ?_)|fail)
  case c4=>unfold maxLen;omega
  case c5=>omega
  case c6=>simp
  intro v' w5 hown' hgr _
  have hO:OwnE w5 w.heap.size 147 v' l:=owne_conv hown' (by omega) (by simp[flat4])
  have hb5:Below w.heap.size w w5:=((Below.refl w.heap.size w).alloc (Nat.le_refl _) _).grown hgr (by simp) (fun g hg=>(World.ownsRow.lt HO.out g hg).1)
  have HO5:=Lib.hid hO
  have HB5:=Lib.hid hb5
  clear hown' hgr hO hb5
  go_wp2_with fail
  go_ret
  exact⟨_,rfl,HO5.out.ensAt,fun a n c h=>(HO5.out.lt a.block (by have h':v'=.slice (some a) n c:=h;rw[h'];rfl)),HB5.out⟩
end Go.Proofs.YtjkgkmmkehnggaaGreatDoor
namespace Go.Proofs.YtjkgkmmkehnggaaGreatDoor
set_option linter.unusedVariables false
set_option linter.unusedSimpArgs false
open Go.RowKit Go.Shelf
set_option maxRecDepth 20000
attribute [local go_sem] Oper.semAt_some
theorem pinfoRs:(Tryz.prog.info? 84).map (fun i=>(i.zero,i.size,i.bytes))=some (some (.slice none 0 0),1,24):=by kernel_rfl
theorem EnsAt.grownR {X Y:World} {row:Option Nat} {v:Value} {l:List En} (h:EnsAt X v l) (hg:X.grownBy Y row) (hr:∀ r,row=some r→∃ o:Obj,X.heap[r]?=some o∧o.isCells=false):EnsAt Y v l:=by
 obtain⟨a,cap,rfl,h1,h2,hc⟩:=h
 refine⟨a,cap,rfl,h1,h2,fun k t ht=>?_⟩
 obtain⟨g,off,rfl,hg',c0,c1,c2,c3⟩:=hc k t ht
 have hne:row≠some g:=by
  intro e
  obtain⟨o,ho,hn⟩:=hr g e
  have c:=c0
  unfold World.cell? at c
  simp only[ho] at c
  cases o <;> first|(simp[Obj.isCells] at hn;done)|(simp at c;done)
 have hb:Y.heap[g]?=X.heap[g]?:=hg.block g hg' (fun e=>hne e.symm)
 exact⟨g,off,rfl,Nat.lt_of_lt_of_le hg' hg.size,(World.cell?_of_block (a:=⟨g,off+k*4,none⟩) hb).trans c0,(World.cell?_of_block (a:=⟨g,off+k*4+1,none⟩) hb).trans c1,(World.cell?_of_block (a:=⟨g,off+k*4+2,none⟩) hb).trans c2,(World.cell?_of_block (a:=⟨g,off+k*4+3,none⟩) hb).trans c3⟩
theorem EnsAt.keepB {X Y:World} {v:Value} {l:List En} (h:EnsAt X v l) (hs:X.heap.size≤Y.heap.size) (hk:∀ a n c,v=.slice (some a) n c→a.block<X.heap.size→Y.heap[a.block]?=X.heap[a.block]?):EnsAt Y v l:=by
 obtain⟨a,cap,rfl,h1,h2,hc⟩:=h
 refine⟨a,cap,rfl,h1,h2,fun k t ht=>?_⟩
 obtain⟨g,off,rfl,hg',c0,c1,c2,c3⟩:=hc k t ht
 have hb:Y.heap[g]?=X.heap[g]?:=hk ⟨g,off,none⟩ _ _ rfl hg'
 exact⟨g,off,rfl,Nat.lt_of_lt_of_le hg' hs,(World.cell?_of_block (a:=⟨g,off+k*4,none⟩) hb).trans c0,(World.cell?_of_block (a:=⟨g,off+k*4+1,none⟩) hb).trans c1,(World.cell?_of_block (a:=⟨g,off+k*4+2,none⟩) hb).trans c2,(World.cell?_of_block (a:=⟨g,off+k*4+3,none⟩) hb).trans c3⟩
theorem ens_base {w:World} {v:Value} {l:List En} (h:EnsAt w v l):∃ a cap g off,v=.slice a l.length cap∧l.length≤cap∧cap≤maxLen∧(l≠[]→a=some ⟨g,off,none⟩):=by
 obtain⟨a,cap,rfl,h1,h2,hc⟩:=h
 cases l with
 | nil=>exact⟨a,cap,0,0,rfl,h1,h2,fun h=>absurd rfl h⟩
 | cons e l =>
  obtain⟨g,off,rfl,_⟩:=hc 0 e rfl
  exact⟨_,cap,g,off,rfl,h1,h2,fun _=>rfl⟩
theorem rsappend_run (W:World) (B:Nat) (ty:TypeId) (v x:Value) (vs:List Value) (b c:Nat) (hown:OwnV W B 84 v vs) (hx:W.cell? ⟨b,0,none⟩=some x) (h1:x.oneCell'=true) (hl:vs.length≤1000000) (hB:B≤W.heap.size) :
  ∃ v' w',(Builtin.append_ #[156,156] ty #[v,.slice (some ⟨b,0,none⟩) 1 c]).run Tryz.prog W=.ok v' w'∧OwnV w' B 84 v' (vs++[x])∧W.grownBy w' v.ownBlock∧(v'.ownBlock=v.ownBlock∨∃ g,v'.ownBlock=some g∧W.heap.size≤g):=by
 obtain⟨i0,hi,hz0,hz1,hz2⟩:=info_parts pinfoRs
 have hnews:∀ j u,[x][j]?=some u→W.cell? ((⟨b,0,none⟩:Addr).add j)=some u:=by
  intro j u hu
  match j,hu with
  | 0,hu=>simp only[List.getElem?_cons_zero,Option.some.injEq] at hu;rw[← hu];exact hx
  | j+1,hu=>simp at hu
 have hone:∀ u ∈ [x],u.oneCell'=true:=by intro u hu;simp at hu;subst hu;exact h1
 have ht:=Tryz.underlying156
 obtain⟨v',w',hr,h2,h3,h4⟩:=run_append_own (P:=Tryz.prog) W B 156 ty 84 i0 _ 1 24 ht hi hz0 hz1 hz2 rfl (by omega) v vs.length vs hown ⟨b,0,none⟩ 1 c [x] rfl hnews hone (by unfold maxLen;omega) (by omega) hB
 refine⟨v',w',hr,vals_conv h2 (by simp) rfl,h3,?_⟩
 rcases hown.2 with ⟨rfl,hn⟩|⟨g,cap,cur,rfl,hbg,hg,hnc,hcm,hcs,htake⟩
 ·obtain⟨_,_,hr2,h22,_,_⟩:=run_append_own (P:=Tryz.prog) W W.heap.size 156 ty 84 i0 _ 1 24 ht hi hz0 hz1 hz2 rfl (by omega) (.slice none 0 0) vs.length vs ⟨hown.1,.inl ⟨rfl,hn⟩⟩ ⟨b,0,none⟩ 1 c [x] rfl hnews hone (by unfold maxLen;omega) (by omega) (Nat.le_refl _)
  rw[hr] at hr2
  injection hr2 with e1 e2
  subst e1 e2
  rcases h22.2 with ⟨rfl,_⟩|⟨g,cap,cur,rfl,hg,_⟩
  ·exact .inl rfl
  ·exact .inr ⟨g,rfl,hg⟩
 ·have hL:vs.length=vs.length*i0.size:=by rw[hz1];omega
  by_cases hroom:vs.length+1≤cap
  ·have hr2:=run_append_room (P:=Tryz.prog) W 156 ty 84 i0 ht hi g vs.length cap cur hg ⟨b,0,none⟩ 1 c [x] (by rw[hz1];rfl) hnews hone hroom (by rw[hz1];simp;omega)
   rw[hr] at hr2
   injection hr2 with e1 e2
   rw[e1]
   exact .inl rfl
  ·have hr2:=run_append_grow (P:=Tryz.prog) W 156 ty 84 i0 _ ht hi hz0 ⟨g,0,none⟩ vs.length cap vs hL (World.ownsRow.cells hown rfl) ⟨b,0,none⟩ 1 c [x] (by rw[hz1];rfl) hnews (by omega) (by omega) (growslice_fits (by omega) (by rw[hz2];omega))
   rw[hr] at hr2
   injection hr2 with e1 e2
   rw[e1]
   exact .inr ⟨_,rfl,Nat.le_refl _⟩
structure CutP (w:World) (n0:Nat) (ps:List (List En)) (vo:Value) (vs:List Value) (W:World):Prop where
 bx:Boxed W n0 156 vo
 row:OwnV W (n0+1) 84 vo vs
 pcs:Pcs W vs ps
 off:∀ (k:Nat) (a:Addr) (n c:Nat),vs[k]?=some (Value.slice (some a) n c)→n0<a.block∧a.block<W.heap.size∧vo.ownBlock≠some a.block
 bel:Below n0 w W
def blkC (n0:Nat) (vo:Value) (b:Nat):Prop:=b=n0∨vo.ownBlock=some b
section
variable {w W W2 W5:World} {n0:Nat} {ps:List (List En)} {vo:Value} {vs:List Value}
theorem CutP.lt (h:CutP w n0 ps vo vs W):∀ b,blkC n0 vo b→b<W.heap.size:=by
 rintro b (rfl|hb)
 ·exact h.bx.lt
 ·exact(h.row.lt b hb).2
theorem CutP.grown {row:Option Nat} (h:CutP w n0 ps vo vs W) (hg:W.grownBy W2 row) (hr:∀ r,row=some r→n0≤r∧∃ o:Obj,W.heap[r]?=some o∧o.isCells=false):CutP w n0 ps vo vs W2:=by
 refine⟨h.bx.kept hg (fun e=>?_),World.ownsRow.kept h.row hg ?_,⟨h.pcs.1,fun k x p hx hp=>(h.pcs.2 k x p hx hp).grownR hg (fun r e=>(hr r e).2)⟩,fun k a n c hk=>?_,h.bel.grown hg (Nat.le_of_lt h.bx.lt) (fun r e=>(hr r e).1)⟩
 ·obtain⟨_,o,ho,hn⟩:=hr n0 e.symm
  rw[show W.heap[n0]?=_ from h.bx] at ho
  cases ho;cases hn
 ·rcases h.row.2 with ⟨rfl,_⟩|⟨g,cap,cur,rfl,_,hgb,_⟩
  ·exact .inl rfl
  ·refine .inr fun e'=>?_
   obtain⟨_,o,ho,hn⟩:=hr g e'.symm
   rw[hgb] at ho
   cases ho;cases hn
 ·obtain⟨o1,o2,o3⟩:=h.off k a n c hk
  exact⟨o1,Nat.lt_of_lt_of_le o2 hg.size,o3⟩
theorem CutP.step {x v5:Value} {p:List En} {o:Obj} (h:CutP w n0 ps vo vs W) (hb2:Below W.heap.size W W2) (hx:EnsAt W2 x p) (hxb:∀ a n c,x=.slice (some a) n c→W.heap.size≤a.block∧a.block<W2.heap.size)
  (ho5:OwnV W5 (n0+1) 84 v5 (vs++[x])) (hg5:(W2.alloc o).grownBy W5 vo.ownBlock) (hl:v5.ownBlock=vo.ownBlock∨∃ g,v5.ownBlock=some g∧(W2.alloc o).heap.size≤g) :
  CutP w n0 (ps++[p]) v5 (vs++[x]) (W5.setCell ⟨n0,0,none⟩ v5)∧KeepsS (blkC n0 vo) (blkC n0 v5) W (W5.setCell ⟨n0,0,none⟩ v5)∧Boxed W5 n0 156 vo:=by
 have hn0:n0<W.heap.size:=h.bx.lt
 have hba:Below W.heap.size W (W2.alloc o):=hb2.alloc hb2.size o
 have bx2:Boxed (W2.alloc o) n0 156 vo:=(hba.block n0 hn0).trans h.bx
 have row2:OwnV (W2.alloc o) (n0+1) 84 vo vs:=h.row.below hba
 have bx5:Boxed W5 n0 156 vo:=bx2.kept hg5 (bx2.not_row (by decide) row2)
 have hne5:some n0≠v5.ownBlock:=bx5.not_row (by decide) ho5
 have hset:∀ b,b≠n0→(W5.setCell ⟨n0,0,none⟩ v5).heap[b]?=W5.heap[b]?:=fun b hb=>Below.heap_setCell _ _ _ _ (by simpa using hb)
 have hsz:(W5.setCell ⟨n0,0,none⟩ v5).heap.size=W5.heap.size:=by simp
 have hs2:=hb2.size
 have hsa:(W2.alloc o).heap.size=W2.heap.size+1:=by simp
 have hs5:W2.heap.size+1≤W5.heap.size:=by have:=hg5.size;rw[hsa] at this;exact this
 have keepP:∀ b,b≠n0→vo.ownBlock≠some b→b<(W2.alloc o).heap.size→(W5.setCell ⟨n0,0,none⟩ v5).heap[b]?=(W2.alloc o).heap[b]?:=fun b h1 h2 h3=>(hset b h1).trans (hg5.block b h3 (fun e=>h2 e.symm))
 refine⟨⟨bx5.set v5,ho5.keep (fun k hk=>hset k (fun e=>hne5 (by rw[hk,e]))),?_,?_,?_⟩,⟨?_,?_,?_⟩,bx5⟩
 ·refine Pcs.snoc ⟨h.pcs.1,fun k y q hy hq=>((h.pcs.2 k y q hy hq).below hba).keepB (by rw[hsz,hsa];exact hs5) (fun a n c e hlt=>?_)⟩ ((hx.below ((Below.refl _ W2).alloc (Nat.le_refl _) o)).keepB (by rw[hsz,hsa];exact hs5) (fun a n c e hlt=>?_))
  ·subst e
   obtain⟨o1,o2,o3⟩:=h.off k a n c hy
   exact keepP a.block (by omega) o3 hlt
  ·have hq:=hxb a n c e
   exact keepP a.block (by omega) (fun e2=>by have:=(h.row.lt _ e2).2;omega) hlt
 ·intro k a n c hk
  rw[hsz]
  rcases Nat.lt_or_ge k vs.length with hlt|hge
  ·rw[List.getElem?_append_left hlt] at hk
   obtain⟨o1,o2,o3⟩:=h.off k a n c hk
   refine⟨o1,by omega,fun e=>?_⟩
   rcases hl with hl|⟨g,hl,hg⟩
   ·exact o3 (by rw[← hl];exact e)
   ·rw[hl] at e;cases e;rw[hsa] at hg;omega
  ·rw[List.getElem?_append_right hge] at hk
   have h0:k - vs.length=0:=by
    have:=(List.getElem?_eq_some_iff.1 hk).1
    simp at this
    omega
   rw[h0] at hk
   simp at hk
   have hq:=hxb a n c hk
   refine⟨by omega,by omega,fun e=>?_⟩
   rcases hl with hl|⟨g,hl,hg⟩
   ·rw[hl] at e
    have:=(h.row.lt _ e).2;omega
   ·rw[hl] at e;cases e;rw[hsa] at hg;omega
 ·exact((h.bel.trans (hba.mono (Nat.le_of_lt hn0))).grown hg5 (by rw[hsa];omega) (fun k hk=>by have:=(h.row.lt k hk).1;omega)).setCell (p:=⟨n0,0,none⟩) (Nat.le_refl _) v5
 ·rw[hsz];omega
 ·intro b o' hb ho
  have h1:b≠n0:=fun e=>hb (.inl e)
  have h2:vo.ownBlock≠some b:=fun e=>hb (.inr e)
  have h3:=hlt_of ho
  exact(keepP b h1 h2 (by rw[hsa];omega)).trans ((hba.block b h3).trans ho)
 ·rintro b (rfl|hb)
  ·exact .inl (.inl rfl)
  ·rcases hl with hl|⟨g,hl,hg⟩
   ·exact .inl (.inr (by rw[← hl];exact hb))
   ·rw[hl] at hb;cases hb;rw[hsa] at hg;exact .inr (by omega)
end
def CutI (w:World) (n0:Nat) (P:List (List En)) (k:Nat) (S:Nat→Prop) (W:World):Prop:=∃ vo vs,CutP w n0 (P.take k) vo vs W∧∀ b,S b↔blkC n0 vo b
theorem cutI_bears (w:World) (n0:Nat) (P:List (List En)) (B:Nat) (hB:n0≤B):Bears2Bb (fun _=>False) B (CutI w n0 P):=by
 rintro⟨k,S⟩ X Y row ⟨vo,vs,h,hS⟩ hg hr
 refine⟨vo,vs,h.grown hg (fun r e=>?_),hS⟩
 rcases hr r e with h|h
 ·exact h.elim
 ·exact⟨Nat.le_trans hB h.1,h.2⟩
theorem CutI.lt {w:World} {n0:Nat} {P:List (List En)} {k:Nat} {S:Nat→Prop} {W:World} (h:CutI w n0 P k S W):∀ b,S b→b<W.heap.size:=by
 obtain⟨vo,vs,h,hS⟩:=h
 exact fun b hb=>h.lt b ((hS b).1 hb)
set_option maxRecDepth 100000 in
set_option maxHeartbeats 4000000 in
theorem cut14_any (v:Value) (l:List En) (n:Int) (w:World) (hv:EnsAt w v l) (hm:MaysN l) (hl:l.length≤200) (hn:-9223372036854775808≤n∧n≤9223372036854775807) :
  Calls Tryz.prog 76 #[v,.int .i64 n] w fun e w'=>∃ v',e=.returned v'∧PcsAt w' v' (cutZ n l)∧Below w.heap.size w w':=by
 by_cases h1:n<1
 ·have hz:cutZ n l=[]:=by unfold cutZ;rw[if_pos h1]
  have HZ:=Lib.hid hz
  have d1:decide (n<1)=true:=decide_eq_true h1
  obtain⟨av,cv,rfl⟩:=ensAt_form hv
  clear hz hv h1
  go_enter Tryz.func76,Tryz.ntmps76
  go_wp2_with fail
  go_ret
  exact⟨_,rfl,by rw[HZ.out];exact⟨[],valsAt_nil _,pcs_nil _⟩,Below.refl _ _⟩
 ·obtain⟨N,rfl⟩:∃ N:Nat,n=N:=⟨n.toNat,by omega⟩
  have hN:1≤N∧N≤9223372036854775807:=by omega
  have HZ:Hid (cutZ (N:Int) l=cutN N l):=Lib.hid (by unfold cutZ;rw[if_neg h1,Int.toNat_natCast])
  have d1:decide ((N:Int)<1)=false:=decide_eq_false h1
  have HV:=Lib.hid hv
  have HCH:=Lib.hid (fun X (hX:Below w.heap.size w X)=>chunk_any v l N X (hv.below hX) hN)
  obtain⟨a,cap,g,off,rfl,hcap,hmx,ha⟩:=ens_base hv
  have HSQ:=Lib.hid (fun X B0 B1 (c0:X.cell? ⟨B0,0,none⟩=some (.slice a l.length cap)) (c1:X.cell? ⟨B1,0,none⟩=some (.int .i64 N))=>chunk1_seq l g off cap N B0 B1 a X hN ha hcap hmx (by omega) c0 c1)
  have HA:=Lib.hid ha
  have HN:=Lib.hid hN
  clear hv ha hcap hmx hN
  refine(callsIn_wide (n:=3)).1 ?_
  refine callsIn_of_wp_marks Tryz.func76 rfl trivial ?_ rfl
  simp only[Tryz.ntmps76,List.size_toArray,List.length_cons,List.length_nil,Nat.reduceAdd,Nat.reduceSub,Array.replicate_succ,Array.replicate_zero,List.push_toArray,List.append_toArray,List.nil_append,List.cons_append]
  gi_wp2
  refine⟨trivial,(callsIn_wide.2 (HCH.out _ ((Below.refl _ w).alloc (Nat.le_refl _) _))).mono ?_⟩
  rintro x w2 ⟨rfl,hc0,hc1,hb2⟩
  have hP2:CutP w w.heap.size [] (.slice none 0 0) [] w2:=⟨(hb2.block _ (by simp)).trans (Boxed.new w _ _),ownV_nil _ _ _,pcs_nil _,fun k a n c h=>by simp at h,((Below.refl _ w).alloc (Nat.le_refl _) _).trans (hb2.mono (by simp))⟩
  have hz2:=ecell_lt hc1
  have HP2:=Lib.hid hP2
  have HS2:=Lib.hid (HSQ.out w2 _ _ hc0 hc1)
  simp only[World.size_alloc] at hz2
  simp only[World.size_alloc] at HS2
  clear hc0 hc1 hP2 HSQ HCH hb2
  gi_wp2
  refine range_d1Bb (n:=3) (val:=fun k=>chV g off l.length N k) (p:=12) (r:=6) rfl (enters_of Tryz.func212 (by kernel_rfl) rfl) HS2.out (Below.refl _ _) (fun _ h=>h.elim) ?hV
   (CutI w w.heap.size (cutN N l)) (fun _ _ _=>False) ?hI (fun _ _ _ _ _ h _ _=>h) (fun k S W h=>⟨trivial,h.lt⟩) (fun b=>b=w.heap.size) ?hS0 ?h0 (fun _ _ _ _ _ _ _ _=>trivial) ?assign ?body ?done (fun _ _ _ _ _ _ h _=>h.elim)
  case hV=>rintro b (rfl|rfl) <;> omega
  case hI=>exact cutI_bears w _ _ _ (by omega)
  case hS0=>rintro b rfl;exact⟨by omega,by omega⟩
  case h0=>exact⟨_,_,HP2.out,fun b=>by unfold blkC;simp[Value.ownBlock]⟩
  case assign =>
   intro lq k W' K hK
   simp only[List.setIfInBounds_toArray,List.set_cons_zero,List.set_cons_succ] at hK ⊢
   gi_wp2
   exact hK
  case body =>
   rintro lq k S W hlq ⟨vo,vs,hP,hS⟩ hk
   have hS':S=blkC w.heap.size vo:=funext fun b=>propext (hS b)
   subst hS'
   clear hS
   have hkl:=(cut_lt N HN.out.1 k l).1 hk
   have hat:=cut_at N HN.out.1 k l hkl
   have hne:l≠[]:=by rintro rfl;simp at hkl
   have ha:=HA.out hne
   subst ha
   have hx:=chV_ens (HV.out.below hP.bel) N k hkl
   have hpl:((l.drop (k*N)).take N).length≤200:=by rw[List.length_take,List.length_drop];omega
   have hnx:(cutN N l).take (k+1)=(cutN N l).take k++[(l.drop (k*N)).take N]:=by rw[List.take_add_one,hat];rfl
   have hvl:vs.length≤1000000:=by
    have:=hP.pcs.1
    rw[List.length_take] at this
    have:=cut_len N HN.out.1 l
    omega
   have HCL:=Lib.hid (fun X (hX:Below W.heap.size W X)=>pclone_any (chV g off l.length N k) ((l.drop (k*N)).take N) X (hx.below hX) (by omega))
   have HNX:=Lib.hid hnx
   obtain⟨ax,cx,hcv⟩:=ensAt_form hx
   obtain⟨av,cv,rfl⟩:=hP.row.slice
   have HP:=Lib.hid hP
   have hdb:Below W.heap.size W W.drew:=Below.drew (Below.refl _ _)
   have hdc:=(hP.bx.cell:W.drew.cell? _=_)
   have hdf:=(hP.bx.frozen:W.drew.frozen? _=_)
   have HVL:=Lib.hid hvl
   unfold CloneEndBb at HCL
   clear hkl hat hne hx hnx hP hvl hk
   generalize (l.drop (k*N)).take N=p at *
   generalize chV g off l.length N k=cvx at *
   subst hcv
   generalize p.length=pl at *
   have HCL2:=Lib.hid (HCL.out _ hdb)
   clear hdb HCL
   simp only[List.setIfInBounds_toArray,List.set_cons_zero,List.set_cons_succ]
   gi_wp2
   refine round_any (by kernel_rfl) (by kernel_rfl) (by rintro⟨a,w,h⟩;exact h) ?_
   change wpAny _ _ _ _ _ _ _ W.drew
   refine wpAny_take (i:=1) (v:=?_) rfl (by kernel_rfl) (by kernel_rfl) (by kernel_rfl) (fun _ _ _ h=>h) (Or.inl ⟨by rfl,?y1⟩) ?_
   case y1=>intro w;go_simp;try with_reducible rfl
   try simp only[Act.put,zsA,zsB,zsC]
   refine wpAny_ready (rs:=[0,2]) (by kernel_rfl) (by simp) ?_
   refine AllReady.cons rfl (fun K hK=>?_) (AllReady.cons rfl (fun K hK=>?_) AllReady.nil)
   ·go_simp
    refine hK _ _ ?_
    clear hK K
    try simp only[Act.put,zsA,zsB,zsC]
    refine wpAny_ready (rs:=[2]) (by kernel_rfl) (by simp) ?_
    refine AllReady.cons rfl (fun K hK=>?_) AllReady.nil
    go_simp
    refine HCL2.out.mono ?_
    rintro e w3 ⟨v3,rfl,he3,hk3,hb3⟩
    have hbW:Below W.heap.size W w3:=(Below.drew (Below.refl _ _)).trans (hb3:Below W.heap.size W.drew w3)
    obtain⟨a3,c3,rfl⟩:=ensAt_form he3
    have hcc:=(HP.out.bx.cell)
    have hw3:w3.cell? ⟨w.heap.size,0,none⟩=some _:=ecell_later hbW hcc
    have hba3:Below W.heap.size W (w3.alloc (.cells #[.slice a3 p.length c3] 84)):=hbW.alloc hbW.size _
    have hw4:(w3.alloc (.cells #[.slice a3 p.length c3] 84)).cell? ⟨w.heap.size,0,none⟩=some _:=ecell_later hba3 hcc
    obtain⟨v5,w5,hr5,ho5,hg5,hl5⟩:=rsappend_run (w3.alloc (.cells #[.slice a3 p.length c3] 84)) (w.heap.size+1) 156 (.slice av vs.length cv) (.slice a3 p.length c3) vs w3.heap.size 1 (HP.out.row.below hba3) (by simp) rfl HVL.out (by have:=hba3.size;have:=HP.out.bx.lt;omega)
    obtain⟨hst,hkp,hb5⟩:=HP.out.step hbW he3 hk3 ho5 hg5 hl5
    have f5c:=hb5.cell
    have f5f:=hb5.frozen
    obtain⟨a5,c5,hq5⟩:=ho5.slice
    rw[List.length_append,List.length_singleton] at hq5
    subst hq5
    rw[← HNX.out] at hst
    have HN:Hid (CutI w w.heap.size (cutN N l) (k+1) (blkC w.heap.size (.slice a5 (vs.length+1) c5)) (w5.setCell ⟨w.heap.size,0,none⟩ (.slice a5 (vs.length+1) c5))∧KeepsS (blkC w.heap.size (.slice av vs.length cv)) (blkC w.heap.size (.slice a5 (vs.length+1) c5)) W (w5.setCell ⟨w.heap.size,0,none⟩ (.slice a5 (vs.length+1) c5))):=Lib.hid ⟨⟨_,_,hst,fun b=>Iff.rfl⟩,hkp⟩
    clear hst hkp hb5 ho5 hg5 hl5 he3 hk3 hb3 hbW hba3 hcc
    go_wp2_with fail
    try simp only[Act.put,zsA,zsB,zsC]
    refine wpAny_ready (rs:=[3]) (by kernel_rfl) (by simp) ?_
    refine AllReady.cons rfl (fun K hK=>?_) AllReady.nil
    go_simp
    refine hK _ _ ?_
    clear hK K
    try simp only[Act.put,zsA,zsB,zsC]
    refine wpAny_ready (rs:=[4]) (by kernel_rfl) (by simp) ?_
    refine AllReady.cons rfl (fun K hK=>?_) AllReady.nil
    refine Lib.wp_append_run _ _ _ _ _ rfl _ _ rfl rfl _ _ hr5 ?_
    refine hK _ _ ?_
    clear hK K
    try simp only[Act.put,zsA,zsB,zsC]
    refine wpAny_ready (rs:=[5]) (by kernel_rfl) (by simp) ?_
    refine AllReady.cons rfl (fun K hK=>?_) AllReady.nil
    go_simp
    refine hK _ _ ?_
    clear hK K
    try simp only[Act.put,zsA,zsB,zsC]
    refine wpAny_done (by kernel_rfl) ?_ _
    exact⟨_,HN.out⟩
   ·go_simp
    refine HCL2.out.mono ?_
    rintro e w3 ⟨v3,rfl,he3,hk3,hb3⟩
    have hbW:Below W.heap.size W w3:=(Below.drew (Below.refl _ _)).trans (hb3:Below W.heap.size W.drew w3)
    obtain⟨a3,c3,rfl⟩:=ensAt_form he3
    have hcc:=(HP.out.bx.cell)
    have hw3:w3.cell? ⟨w.heap.size,0,none⟩=some _:=ecell_later hbW hcc
    have hba3:Below W.heap.size W (w3.alloc (.cells #[.slice a3 p.length c3] 84)):=hbW.alloc hbW.size _
    have hw4:(w3.alloc (.cells #[.slice a3 p.length c3] 84)).cell? ⟨w.heap.size,0,none⟩=some _:=ecell_later hba3 hcc
    obtain⟨v5,w5,hr5,ho5,hg5,hl5⟩:=rsappend_run (w3.alloc (.cells #[.slice a3 p.length c3] 84)) (w.heap.size+1) 156 (.slice av vs.length cv) (.slice a3 p.length c3) vs w3.heap.size 1 (HP.out.row.below hba3) (by simp) rfl HVL.out (by have:=hba3.size;have:=HP.out.bx.lt;omega)
    obtain⟨hst,hkp,hb5⟩:=HP.out.step hbW he3 hk3 ho5 hg5 hl5
    have f5c:=hb5.cell
    have f5f:=hb5.frozen
    obtain⟨a5,c5,hq5⟩:=ho5.slice
    rw[List.length_append,List.length_singleton] at hq5
    subst hq5
    rw[← HNX.out] at hst
    have HN:Hid (CutI w w.heap.size (cutN N l) (k+1) (blkC w.heap.size (.slice a5 (vs.length+1) c5)) (w5.setCell ⟨w.heap.size,0,none⟩ (.slice a5 (vs.length+1) c5))∧KeepsS (blkC w.heap.size (.slice av vs.length cv)) (blkC w.heap.size (.slice a5 (vs.length+1) c5)) W (w5.setCell ⟨w.heap.size,0,none⟩ (.slice a5 (vs.length+1) c5))):=Lib.hid ⟨⟨_,_,hst,fun b=>Iff.rfl⟩,hkp⟩
    clear hst hkp hb5 ho5 hg5 hl5 he3 hk3 hb3 hbW hba3 hcc
    go_wp2_with fail
    try simp only[Act.put,zsA,zsB,zsC]
    refine wpAny_ready (rs:=[0,3]) (by kernel_rfl) (by simp) ?_
    refine AllReady.cons rfl (fun K hK=>?_) (AllReady.cons rfl (fun K hK=>?_) AllReady.nil)
    ·go_simp
     refine hK _ _ ?_
     clear hK K
     try simp only[Act.put,zsA,zsB,zsC]
     refine wpAny_ready (rs:=[3]) (by kernel_rfl) (by simp) ?_
     refine AllReady.cons rfl (fun K hK=>?_) AllReady.nil
     go_simp
     refine hK _ _ ?_
     clear hK K
     try simp only[Act.put,zsA,zsB,zsC]
     refine wpAny_ready (rs:=[4]) (by kernel_rfl) (by simp) ?_
     refine AllReady.cons rfl (fun K hK=>?_) AllReady.nil
     refine Lib.wp_append_run _ _ _ _ _ rfl _ _ rfl rfl _ _ hr5 ?_
     refine hK _ _ ?_
     clear hK K
     try simp only[Act.put,zsA,zsB,zsC]
     refine wpAny_ready (rs:=[5]) (by kernel_rfl) (by simp) ?_
     refine AllReady.cons rfl (fun K hK=>?_) AllReady.nil
     go_simp
     refine hK _ _ ?_
     clear hK K
     try simp only[Act.put,zsA,zsB,zsC]
     refine wpAny_done (by kernel_rfl) ?_ _
     exact⟨_,HN.out⟩
    ·go_simp
     refine hK _ _ ?_
     clear hK K
     try simp only[Act.put,zsA,zsB,zsC]
     refine wpAny_ready (rs:=[0]) (by kernel_rfl) (by simp) ?_
     refine AllReady.cons rfl (fun K hK=>?_) AllReady.nil
     go_simp
     refine hK _ _ ?_
     clear hK K
     try simp only[Act.put,zsA,zsB,zsC]
     refine wpAny_ready (rs:=[4]) (by kernel_rfl) (by simp) ?_
     refine AllReady.cons rfl (fun K hK=>?_) AllReady.nil
     refine Lib.wp_append_run _ _ _ _ _ rfl _ _ rfl rfl _ _ hr5 ?_
     refine hK _ _ ?_
     clear hK K
     try simp only[Act.put,zsA,zsB,zsC]
     refine wpAny_ready (rs:=[5]) (by kernel_rfl) (by simp) ?_
     refine AllReady.cons rfl (fun K hK=>?_) AllReady.nil
     go_simp
     refine hK _ _ ?_
     clear hK K
     try simp only[Act.put,zsA,zsB,zsC]
     refine wpAny_done (by kernel_rfl) ?_ _
     exact⟨_,HN.out⟩
  case done =>
   rintro D S W hD hSD ⟨vo,vs,hP,hS⟩ _ hDW
   rw[List.take_length] at hP
   obtain⟨av,cv,rfl⟩:=hP.row.slice
   have hvc:=hP.bx.cell
   have HH:=Lib.hid (And.intro hD (And.intro hDW hP))
   clear hP hS hDW hD
   gi_wp2
   obtain⟨h1,h2,h3⟩:=HH.out
   refine⟨by simp,.inl ⟨_,_,rfl,run_takeDeferred h2,?_⟩⟩
   have hR:=h3.grown (grownBy_putObj' _ D (.deferred none)) (fun r e=>by cases e;exact⟨by omega,_,h2,rfl⟩)
   exact⟨_,results_tmp rfl _ _ _,_,rfl,by rw[HZ.out];exact⟨vs,hR.row.valsAt,hR.pcs⟩,hR.bel⟩
end Go.Proofs.YtjkgkmmkehnggaaGreatDoor
namespace Go.Proofs.YtjkgkmmkehnggaaGreatDoor
set_option linter.unusedVariables false
set_option linter.unusedSimpArgs false
set_option maxRecDepth 20000
def noB:ByteArray:=ByteArray.mk #[]
def fitN (budget:Int) (ps:List (List En)):Bool:=decide (∀ p ∈ ps,(textI p).length≤65536) && decide (sizD (rootsN 0 ps)≤budget)
def goS (l:List En) (budget:Int):Nat→Nat→Option Nat
 | 0,_=>none
 | f+1,n=>if fitN budget (cutN n l) then some n else goS l budget f (2*n)
structure Sp where
 root:List En
 text:ByteArray
 size:Int
 err:Int
def splitN (l:List En) (budget:Int):Sp :=
 if budget<1∨16257<budget then ⟨[],noB,0,2⟩ else if rowN l≠0 then ⟨[],noB,0,rowN l⟩ else if leavesN l≠[] then ⟨[],noB,0,14⟩ else
 if sizD l≤budget then ⟨l,noB,0,0⟩ else match goS l budget 13 1 with
 | some n=>⟨rootsN 0 (cutN n l),str (textsI (cutN n l)),n,0⟩
 | none=>⟨[],noB,0,15⟩
theorem goS_some (l:List En) (budget:Int):∀ (f n m:Nat),1≤n→goS l budget f n=some m→1≤m∧fitN budget (cutN m l)=true
 | f+1,n,m,hn,h=>by
  rw[goS] at h
  split at h
  ·rename_i hf
   cases h
   exact⟨hn,hf⟩
  ·exact goS_some l budget f (2*n) m (by omega) h
theorem split_ok {l:List En} {budget:Int} (h:(splitN l budget).err=0):1≤budget∧budget≤16257∧rowN l=0∧leavesN l=[] ∧
  ((sizD l≤budget∧splitN l budget=⟨l,noB,0,0⟩)∨(¬ sizD l≤budget∧∃ n,1≤n∧fitN budget (cutN n l)=true∧splitN l budget=⟨rootsN 0 (cutN n l),str (textsI (cutN n l)),n,0⟩)):=by
 unfold splitN at h ⊢
 by_cases h1:budget<1∨16257<budget
 ·rw[if_pos h1] at h;cases h
 rw[if_neg h1] at h ⊢
 by_cases h2:rowN l≠0
 ·rw[if_pos h2] at h;exact absurd h h2
 rw[if_neg h2] at h ⊢
 by_cases h3:leavesN l≠[]
 ·rw[if_pos h3] at h;cases h
 rw[if_neg h3] at h ⊢
 refine⟨by omega,by omega,Classical.not_not.1 h2,Classical.not_not.1 h3,?_⟩
 by_cases h4:sizD l≤budget
 ·rw[if_pos h4];exact .inl ⟨h4,rfl⟩
 rw[if_neg h4] at h ⊢
 right
 refine⟨h4,?_⟩
 cases hg:goS l budget 13 1 with
 | none=>rw[hg] at h;cases h
 | some n =>
  obtain⟨g1,g2⟩:=goS_some l budget 13 1 n (by omega) hg
  exact⟨n,g1,g2,rfl⟩
theorem row_part {a m b:List En} (hm:∀ e ∈ a++m++b,MayN e) (h:rowN (a++m++b)=0):rowN m=0:=by
 have h1:=row_take h (a++m).length
 rw[List.take_left'  rfl] at h1
 have h2:=row_drop (fun e he=>hm e (by simp at he ⊢;rcases he with he|he;exact .inl he;exact .inr (.inl he))) h1 a.length
 rwa[List.drop_left' rfl] at h2
theorem leaves_part {a m b:List En} (h:leavesN (a++m++b)=[]):leavesN m=[]:=by
 unfold leavesN at h ⊢
 rw[List.filter_append,List.filter_append] at h
 simp only[List.append_eq_nil_iff] at h
 exact h.1.2
theorem cut_good {l:List En} (n:Nat) (hn:1≤n) (hm:∀ e ∈ l,MayN e) (hr:rowN l=0) (hl:leavesN l=[]):∀ p ∈ cutN n l,(∀ e ∈ p,MayN e)∧rowN p=0∧leavesN p=[]∧p≠[]:=by
 intro p hp
 obtain⟨P1,P2,he⟩:=List.append_of_mem hp
 have hf:=cut_flat n hn l
 rw[he,List.flatten_append,List.flatten_cons,← List.append_assoc] at hf
 have hm':∀ e ∈ P1.flatten++p++P2.flatten,MayN e:=by rw[hf];exact hm
 exact⟨fun e h=>hm' e (by simp[h]),row_part hm' (by rw[hf];exact hr),leaves_part (a:=P1.flatten) (b:=P2.flatten) (by rw[hf];exact hl),(cut_mem n hn l p hp).1⟩
end Go.Proofs.YtjkgkmmkehnggaaGreatDoor
namespace Go.Proofs.YtjkgkmmkehnggaaGreatDoor
set_option linter.unusedVariables false
set_option linter.unusedSimpArgs false
open Go.RowKit
set_option maxRecDepth 20000
theorem roots_snoc (ps:List (List En)) (k:Nat) (p:List En) (h:ps[k]?=some p):rootsN 0 (ps.take (k+1))=rootsN 0 (ps.take k)++[⟨(gS p 0).id,(textsI (ps.take k)).length,(textI p).length,0⟩]:=by
 rw[List.take_add_one,h,Option.toList_some,rootsN_append,Nat.zero_add]
 rfl
theorem texts_snoc (ps:List (List En)) (k:Nat) (p:List En) (h:ps[k]?=some p):textsI (ps.take (k+1))=textsI (ps.take k)++textI p:=by
 rw[List.take_add_one,h,Option.toList_some,textsI_append]
 simp[textsI]
theorem enc_few {p:List En} (hr:rowN p=0) (hl:p.length≤1000):encB p=0∧encT p=str (textI p)∧sizD p=(textI p).length:=by
 have h:=(textI_bd p).2
 have h1:encB p=0:=by unfold encB;rw[if_pos hr,if_neg (by omega)]
 refine⟨h1,?_,?_⟩
 ·unfold encT;rw[if_pos h1]
 ·unfold sizD;rw[if_pos hr]
theorem texts_take (ps:List (List En)) (k:Nat):(textsI (ps.take k)).length≤(textsI ps).length:=by
 have h:=textsI_append (ps.take k) (ps.drop k)
 rw[List.take_append_drop] at h
 rw[h,List.length_append]
 omega
theorem ens_lit14 (w:World) (e:En) (T:TypeId):EnsAt (w.alloc (.cells (eC e) T)) (.slice (some ⟨w.heap.size,0,none⟩) 1 1) [e]:=by
 refine⟨_,1,rfl,by simp,by unfold maxLen;omega,fun k t ht=>?_⟩
 cases k with
 | zero =>
  simp at ht
  subst ht
  obtain⟨h0,h1,h2,h3⟩:=EAt.made w e T
  exact⟨w.heap.size,0,rfl,by simp,by simpa using h0,by simpa using h1,by simpa using h2,by simpa using h3⟩
 | succ k=>simp at ht
theorem results_tmp4 {fn:Func} {t u v x:Tmp} (h:fn.results=#[.tmp t,.tmp u,.tmp v,.tmp x]) (tmps:Array Value) (P:Program) (w:World) :
  (results fn tmps).run P w=.ok (.tuple #[tmps.getD t undef,tmps.getD u undef,tmps.getD v undef,tmps.getD x undef]) w:=by
 simp[results,h]
def SplEnd (l:List En) (budget:Int) (w:World) (e:Ending) (w':World):Prop:=∃ v',e=.returned (.tuple #[v',.string (splitN l budget).text,.int .i64 (splitN l budget).size,.int .i64 (splitN l budget).err])∧EnsAt w' v' (splitN l budget).root∧Below w.heap.size w w'
theorem goS_step (l:List En) (budget:Int) (f n:Nat):goS l budget (f+1) n=if fitN budget (cutN n l) then some n else goS l budget f (2*n):=rfl
theorem fit_few {l:List En} (n:Nat) (hn:1≤n) (hl:l.length≤150) (budget:Int):fitN budget (cutN n l)=decide (sizD (rootsN 0 (cutN n l))≤budget):=by
 unfold fitN
 rw[decide_eq_true,Bool.true_and]
 intro p hp
 have h1:=(textI_bd p).2
 have h2:p.length≤l.length:=by
  obtain⟨P1,P2,he⟩:=List.append_of_mem hp
  rw[← cut_flat n hn l,he]
  simp
  omega
 omega
theorem split_same {l:List En} {b:Int} (h:¬ (b<1∨16257<b)) (h1:rowN l=0) (h2:leavesN l=[]) (h3:sizD l≤b):splitN l b=⟨l,noB,0,0⟩:=by unfold splitN;rw[if_neg h,if_neg (by simpa using h1),if_neg (by simpa using h2),if_pos h3]
theorem split_some {l:List En} {b:Int} {n:Nat} (h:¬ (b<1∨16257<b)) (h1:rowN l=0) (h2:leavesN l=[]) (h3:¬ sizD l≤b) (h4:goS l b 13 1=some n):splitN l b=⟨rootsN 0 (cutN n l),str (textsI (cutN n l)),n,0⟩:=by unfold splitN;rw[if_neg h,if_neg (by simpa using h1),if_neg (by simpa using h2),if_neg h3,h4]
theorem split_none {l:List En} {b:Int} (h:¬ (b<1∨16257<b)) (h1:rowN l=0) (h2:leavesN l=[]) (h3:¬ sizD l≤b) (h4:goS l b 13 1=none):splitN l b=⟨[],noB,0,15⟩:=by unfold splitN;rw[if_neg h,if_neg (by simpa using h1),if_neg (by simpa using h2),if_neg h3,h4]
theorem pow_tab:∀ j,j<14→(2 ^ (13 - j)≤4096↔1≤j)∧1≤2 ^ (13 - j)∧2 ^ (13 - j)≤8192:=by decide
theorem pow_next:∀ j,j<13→2*2 ^ (13 - (j+1))=2 ^ (13 - j):=by decide
theorem pinfoRf:(Tryz.prog.info? 147).map (fun i=>(i.zero,i.size,i.bytes))=some (some (.agg #[.int .u64 0,.int .u64 0,.int .u32 0,.int .u32 0]),4,24):=by kernel_rfl
theorem chk_bad {l:List En} {b:Int} (h:chkS l b≠0):splitN l b=⟨[],noB,0,chkS l b⟩:=by
 unfold chkS at h ⊢
 unfold splitN
 by_cases h1:b<1∨16257<b
 ·rw[if_pos h1,if_pos h1]
 rw[if_neg h1] at h ⊢
 rw[if_neg h1]
 by_cases h2:rowN l≠0
 ·rw[if_pos h2,if_pos h2]
 rw[if_neg h2] at h ⊢
 rw[if_neg h2]
 by_cases h3:leavesN l≠[]
 ·rw[if_pos h3,if_pos h3]
 rw[if_neg h3] at h
 exact absurd rfl h
theorem chk_okBb {l:List En} {b:Int} (h:chkS l b=0):¬ (b<1∨16257<b)∧rowN l=0∧leavesN l=[]:=by
 unfold chkS at h
 by_cases h1:b<1∨16257<b
 ·rw[if_pos h1] at h;cases h
 rw[if_neg h1] at h
 by_cases h2:rowN l≠0
 ·rw[if_pos h2] at h;exact absurd h h2
 rw[if_neg h2] at h
 by_cases h3:leavesN l≠[]
 ·rw[if_pos h3] at h;cases h
 exact⟨h1,Classical.not_not.1 h2,Classical.not_not.1 h3⟩
def bI (s:ByteArray):List Int:=s.data.toList.map (fun c=>(c.toNat:Int))
theorem bI_cells (s:ByteArray):Lib.strCells s=(bI s).map (Value.int .u8):=by unfold Lib.strCells bI;rw[List.map_map];rfl
theorem bI_append (a b:ByteArray):bI (a++b)=bI a++bI b:=by unfold bI;rw[ByteArray.data_append,Array.toList_append,List.map_append]
theorem bI_len (s:ByteArray):(bI s).length=s.size:=by unfold bI;rw[List.length_map,Array.length_toList];rfl
theorem str_bI (s:ByteArray):str (bI s)=s:=by
 apply ByteArray.ext
 apply Array.ext'
 rw[str_list]
 unfold bI
 rw[List.map_map]
 conv=>rhs;rw[← List.map_id s.data.toList]
 refine List.map_congr_left (fun c _=>?_)
 simp
theorem bsappend_run (W:World) (B:Nat) (ty:TypeId) (v:Value) (s t:ByteArray) (hown:Own W B v (bI s)) (hl:s.size+t.size≤1000000000) (hB:B≤W.heap.size) :
  ∃ v' w',(Builtin.append_ #[23,9] ty #[v,.string t]).run Tryz.prog W=.ok v' w'∧Own w' B v' (bI (s++t))∧W.grownBy w' v.ownBlock:=by
 obtain⟨i0,hi,hz0,hz1,hz2⟩:=info_parts infoU8
 have ho:W.ownsRow B 5 1 v s.size ((bI s).map (Value.int .u8)):=by rw[← bI_len];exact hown
 obtain⟨v',w',hr,h2,h3,h4⟩:=Lib.run_append_own_string (P:=Tryz.prog) W B 23 9 ty 5 i0 Tryz.underlying23 Tryz.underlying9 hi hz0 hz1 hz2 v s.size _ ho t (by unfold maxLen;omega) (by omega) hB
 refine⟨v',w',hr,?_,h3⟩
 unfold Own
 rw[bI_len,ByteArray.size_append,bI_append,List.map_append,← bI_cells t]
 exact h2
theorem own_apartE {w:World} {B B':Nat} {v u:Value} {l:List En} {t:List Int} (h:OwnE w B 147 v l) (h':Own w B' u t):u.ownBlock=none∨u.ownBlock≠v.ownBlock:=by
 rcases h.2 with ⟨rfl,_⟩|⟨g,cap,cur,rfl,_,hh,_⟩
 ·cases hu:u.ownBlock with
  | none=>exact .inl rfl
  | some k=>exact .inr (by simp[Value.ownBlock])
 ·rcases h'.2 with ⟨rfl,_⟩|⟨g',cap',cur',rfl,_,hh',_⟩
  ·exact .inl rfl
  ·refine .inr (fun e=>?_)
   have e':g'=g:=by simpa[Value.ownBlock] using e
   subst e'
   rw[hh] at hh'
   have:=hh'
   simp at this
theorem own_apartB {w:World} {B B':Nat} {v u:Value} {l:List En} {t:List Int} (h:OwnE w B 147 v l) (h':Own w B' u t):v.ownBlock=none∨v.ownBlock≠u.ownBlock:=by
 rcases own_apartE h h' with h1|h1
 ·cases hv:v.ownBlock with
  | none=>exact .inl rfl
  | some k=>exact .inr (by rw[h1];simp)
 ·exact .inr (fun e=>h1 e.symm)
theorem Own.slice {w:World} {B:Nat} {v:Value} {l:List Int} (h:Own w B v l):∃ a cap,v=.slice a l.length cap:=by
 obtain⟨a,cap,e,_⟩:=h.bytesAt
 exact⟨a,cap,e⟩
theorem own_nil14 (w:World) (B:Nat):Own w B (.slice none 0 0) []:=World.ownsRow_nil _ _ _ _
set_option maxHeartbeats 4000000 in
theorem split14_any (v:Value) (l:List En) (b:Int) (w:World) (hv:EnsAt w v l) (hm:MaysN l) (hl:l.length≤150) (hb:-9223372036854775808≤b∧b≤9223372036854775807) :
  Calls Tryz.prog 30 #[v,.int .i64 b] w (SplEnd l b w):=by
 unfold SplEnd
 have HCK:=Lib.hid (lcheck_any v l b w hv hm (by omega) hb)
 by_cases h1:chkS l b=0
 ·obtain⟨g1,g2,g3⟩:=chk_okBb h1
  rw[h1] at HCK
  have HSZ:=Lib.hid (fun X (hX:Below w.heap.size w X)=>psizD_any v l X (hv.below hX) hm (by omega))
  by_cases h4:sizD l≤b
  ·rw[split_same g1 g2 g3 h4]
   have HCL:=Lib.hid (fun X (hX:Below w.heap.size w X)=>pclone_any v l X (hv.below hX) (by omega))
   unfold CloneEndBb at HCL
   have d4:decide (sizD l≤b)=true:=decide_eq_true h4
   obtain⟨av,cv,rfl⟩:=ensAt_form hv
   clear hv h1 g1 g2 g3 h4
   go_enter Tryz.func30,Tryz.ntmps30
   go_wp2_with fail
   go_step3
   go_wp2_with fail
   refine HCK.out.mono ?_
   rintro e w1 ⟨rfl,hb1⟩
   have HB1:=Lib.hid hb1
   clear hb1
   go_wp2_with fail
   refine(HSZ.out _ HB1.out).mono ?_
   rintro e w2 ⟨rfl,hb2⟩
   have HB2:=Lib.hid (HB1.out.trans (hb2.mono HB1.out.size))
   clear hb2
   go_wp2_with fail
   refine(HCL.out _ HB2.out).mono ?_
   rintro e w3 ⟨v3,rfl,he3,_,hb3⟩
   have HE3:=Lib.hid he3
   have HB3:=Lib.hid (HB2.out.trans (hb3.mono HB2.out.size))
   obtain⟨a3,c3,rfl⟩:=ensAt_form he3
   clear hb3 he3
   go_wp2_with fail
   try rw[Exit.noGoto_ret]
   refine bodyPost_ret (results_tmp4 rfl _ _ _) rfl ⟨_,rfl,HE3.out,HB3.out⟩
  ·have HGO:=Lib.hid (fun(n:Nat) (hn:1≤n)=>fit_few (l:=l) n hn hl b)
   have HS:=Lib.hid (fun n h=>split_some (l:=l) (b:=b) (n:=n) g1 g2 g3 h4 h)
   have HNO:=Lib.hid (fun h=>split_none (l:=l) (b:=b) g1 g2 g3 h4 h)
   have HCU:=Lib.hid (fun(N:Nat) X (hN:1≤N∧N≤100000) (hX:Below w.heap.size w X)=>cut14_any v l N X (hv.below hX) hm (by omega) (by omega))
   have d4:decide (sizD l≤b)=false:=decide_eq_false h4
   have HM:=Lib.hid hm
   have HR:=Lib.hid g2
   have HLL:=Lib.hid g3
   have hLN:l.length≤150:=hl
   obtain⟨av,cv,rfl⟩:=ensAt_form hv
   obtain⟨R,hR⟩:∃ R,splitN l b=R:=⟨_,rfl⟩
   rw[hR] at HS HNO ⊢
   clear hv h1 g1 g2 g3 h4 hm hR
   go_enter Tryz.func30,Tryz.ntmps30
   go_wp2_with fail
   go_step3
   go_wp2_with fail
   refine HCK.out.mono ?_
   rintro e w1 ⟨rfl,hb1⟩
   have HB1:=Lib.hid hb1
   clear hb1
   go_wp2_with fail
   refine(HSZ.out _ HB1.out).mono ?_
   rintro e w2 ⟨rfl,hb2⟩
   have HB2:=Lib.hid (HB1.out.trans (hb2.mono HB1.out.size))
   clear hb2
   go_wp2_with fail
   go_step3
   go_wp2_with fail
   go_loopw [9] (fun i wr=>∃ (j N:Nat),i=.int .i64 (N:Int)∧j≤13∧Hid (N=2 ^ (13 - j))∧Hid (goS l b 13 1=goS l b j N)∧Hid (Below w.heap.size w wr)) (fun i _=>8192 - (intOf i).toNat)
   case atStart=>exact⟨13,1,rfl,by omega,Lib.hid (by decide),Lib.hid rfl,HB2⟩
   case round =>
    obtain⟨j,N,rfl,hj,HN,HGS,HBW⟩:=hrel
    obtain⟨t1,t2,t3⟩:=pow_tab j (by omega)
    rw[← HN.out] at t1 t2 t3
    cases j with
    | zero =>
     have hi1:¬ (N:Int)≤4096:=by omega
     have HF:=Lib.hid (HNO.out (HGS.out.trans rfl))
     clear HN HGS t1
     go_wp2_with fail
     try rw[Exit.noGoto_ret]
     refine bodyPost_ret (results_tmp4 rfl _ _ _) rfl ⟨_,by rw[HF.out];rfl,by rw[HF.out];exact ens_nil _,HBW.out⟩
    | succ j =>
     have hi1:(N:Int)≤4096:=by omega
     have HG2:=HGS.out
     rw[goS_step l b j N,HGO.out N (by omega)] at HG2
     have hnx:=pow_next j (by omega)
     have HN2:Hid (2*N=2 ^ (13 - j)):=Lib.hid (by rw[HN.out];exact hnx)
     have HSN:=Lib.hid (HS.out N)
     have HC:=Lib.hid (HCU.out N wr ⟨by omega,by omega⟩ HBW.out)
     have HZ:cutZ (N:Int) l=cutN N l:=by unfold cutZ;rw[if_neg (by omega),Int.toNat_natCast]
     rw[HZ] at HC
     have hgood:=cut_good N t2 HM.out HR.out HLL.out
     have hlen:=fun p hp=>cut_mem N t2 l p hp
     have hfl:=cut_flat N t2 l
     have hbd:=textsI_bd (cutN N l)
     have hcl:=cut_len N t2 l
     have hmay:=roots_may (o:=0) (ps:=cutN N l) (by rw[hfl];exact HM.out) (fun p hp=>(hlen p hp).1) (fun p hp=>by
      have h1:=(textI_bd p).2
      have h2:p.length≤l.length:=by
       obtain⟨P1,P2,he⟩:=List.append_of_mem hp
       rw[← hfl,he]
       simp
       omega
      omega) (by rw[hfl] at hbd;omega)
     have hpl:∀ p ∈ cutN N l,p.length≤150:=fun p hp=>by
      obtain⟨P1,P2,he⟩:=List.append_of_mem hp
      have:p.length≤l.length:=by rw[← hfl,he];simp;omega
      omega
     rw[hfl] at hbd
     generalize cutN N l=ps at *
     have HG:=Lib.hid hgood
     have HPL:=Lib.hid hpl
     have HMY:=Lib.hid hmay
     have HGF:=Lib.hid HG2
     have hpn:ps.length≤150:=by omega
     have htx:(textsI ps).length≤7500:=by omega
     have HTT:=Lib.hid (texts_take ps)
     have ht3:N≤4096:=by omega
     clear hgood hlen hpl hmay hfl hbd hcl HZ HG2 HGS HN hnx t1 HS HGO HCU
     go_wp2_with fail
     refine HC.out.mono ?_
     rintro e w4 ⟨pv,rfl,hpc,hb4⟩
     have HPC:=Lib.hid hpc
     have HB4:=Lib.hid (HBW.out.trans (hb4.mono HBW.out.size))
     obtain⟨ap,cp,rfl,hcp,hmp⟩:=hpc.form
     unfold maxLen at hmp
     clear hpc hb4 HC
     go_wp2_with fail
     go_loopw [10,11,36] (fun vo vb i wz=>∃ k:Nat,k≤ps.length∧i=.int .i64 k∧Hid (OwnE wz w4.heap.size 147 vo (rootsN 0 (ps.take k)))∧Hid (Own wz w4.heap.size vb (bI (str (textsI (ps.take k)))))∧Hid (Below w4.heap.size w4 wz)) (fun _ _ i _=>ps.length - (intOf i).toNat)
     case atStart=>exact⟨0,Nat.zero_le _,rfl,Lib.hid (ownE_nil _ _ _),Lib.hid (own_nil14 _ _),Lib.hid (Below.refl _ _)⟩
     case round =>
      obtain⟨k,hk,rfl,HO,HOB,HB⟩:=hrel
      by_cases hlt:k<ps.length
      ·obtain⟨p,hp⟩:∃ p,ps[k]?=some p:=⟨_,List.getElem?_eq_getElem hlt⟩
       have hmem:=List.mem_of_getElem? hp
       obtain⟨q1,q2,q3,q4⟩:=HG.out p hmem
       obtain⟨e1,e2,e3⟩:=enc_few q2 (by have:=HPL.out p hmem;omega)
       obtain⟨g,off,cap,x,hvx,hg,c0,hx⟩:=HPC.out.at k p hp
       cases hvx
       have d0:=(HB.out.cell (p:=⟨g,off+k,none⟩) hg).trans c0
       have HX:=Lib.hid (hx.below HB.out)
       have HEN:=Lib.hid (fun X (hX:Below wr.heap.size wr X)=>pencD_any x p X ((hx.below HB.out).below hX) q1 (by have:=HPL.out p hmem;omega))
       rw[e1,e2] at HEN
       have HP:=Lib.hid hp
       have hp0:0<p.length:=List.length_pos_iff.2 q4
       obtain⟨gx,ox,cx,rfl,hcx,hgx,hcc⟩:=ens_at HX.out 0 hp0
       obtain⟨x0,_,_,_⟩:=hcc 0 (gS p 0) (gS_get p 0 hp0)
       have hki:(k:Int)<(ps.length:Int):=by omega
       have hpi:(0:Int)<(p.length:Int):=by omega
       have htb:=(textI_bd p).2
       have hpb:=HPL.out p hmem
       have htk:=HTT.out k
       have HID:=Lib.hid (q1 (gS p 0) (gS_mem p 0 hp0))
       obtain⟨avo,cvo,rfl⟩:=ensAt_form HO.out.ensAt
       obtain⟨avb,cvb,rfl⟩:=HOB.out.slice
       clear c0 hx hp hmem q1 q2 q3 e1 e2 e3 hcc
       go_wp2_with fail
       refine(HEN.out _ (Below.refl _ _)).mono ?_
       rintro e w5 ⟨rfl,hb5⟩
       have hB5:=HB.out.trans (hb5.mono HB.out.size)
       have x2:=(hb5.cell (p:=⟨gx,ox+0*4,none⟩) (vcell_lt x0)).trans x0
       simp only[Nat.zero_mul,Nat.add_zero] at x2
       have HO5:=Lib.hid (HO.out.below hb5)
       have HOB5:=Lib.hid (HOB.out.below hb5)
       have HB5:=Lib.hid hB5
       obtain⟨T,hT⟩:∃ T,(textsI (ps.take k)).length=T:=⟨_,rfl⟩
       obtain⟨q,hq⟩:∃ q,(textI p).length=q:=⟨_,rfl⟩
       have HRS:=Lib.hid (roots_snoc ps k p HP.out)
       have HTS:=Lib.hid (texts_snoc ps k p HP.out)
       have hbl:(bI (str (textsI (ps.take k)))).length=T:=by rw[bI_len,str_size,hT]
       have hs2:(str (textI p)).size≤6010:=by rw[str_size];omega
       have hw1:IntKind.u64.wrap (T:Int)=(T:Int):=by rw[IntKind.wrap_u64];omega
       have hw2:IntKind.u32.wrap ((str (textI p)).size:Int)=(q:Int):=by rw[str_size,hq,IntKind.wrap_u32];omega
       have hcat:str (textsI (ps.take k))++str (textI p)=str (textsI (ps.take (k+1))):=by rw[HTS.out,str_append]
       have hszs:(str (textsI (ps.take k))).size≤7500:=by rw[str_size];omega
       rw[hT,hq] at HRS
       have HCAT:=Lib.hid hcat
       rw[hbl] at HOB5 ⊢
       have hba:Below w5.heap.size w5 (w5.alloc (.cells (eC ⟨(gS p 0).id,T,q,0⟩) 147)):=(Below.refl _ _).alloc (Nat.le_refl _) _
       obtain⟨v6,w6,hr6,ho6,hg6⟩:=enappend_run (w5.alloc (.cells (eC ⟨(gS p 0).id,T,q,0⟩) 147)) w4.heap.size 84 147 84 _ Tryz.underlying84 pinfoRf rfl (.slice avo (rootsN 0 (ps.take k)).length cvo) (.slice (some ⟨w5.heap.size,0,none⟩) 1 1) (rootsN 0 (ps.take k)) [⟨(gS p 0).id,T,q,0⟩] (HO5.out.below hba) (ens_lit14 _ _ _) (by rw[rootsN_len,List.length_take];simp;omega) (Nat.le_trans hB5.size hba.size)
       rw[← HRS.out] at ho6
       have hob6:Own w6 w4.heap.size (.slice avb T cvb) (bI (str (textsI (ps.take k)))):=World.ownsRow.kept (HOB5.out.below hba) hg6 (own_apartE (HO5.out.below hba) (HOB5.out.below hba))
       have hb6:=(hB5.trans (hba.mono hB5.size)).grown hg6 (Nat.le_trans hB5.size hba.size) (fun r hr=>(HO5.out.lt r hr).1)
       obtain⟨v7,w7,hr7,ho7,hg7⟩:=bsappend_run w6 w4.heap.size 23 (.slice avb T cvb) _ (str (textI p)) hob6 (by omega) hb6.size
       rw[hcat] at ho7
       have HOB7:=Lib.hid ho7
       have HO7:Hid (OwnE w7 w4.heap.size 147 v6 (rootsN 0 (ps.take (k+1)))):=Lib.hid (World.ownsRow.kept ho6 hg7 (own_apartB ho6 hob6))
       have HB7:=Lib.hid (hb6.grown hg7 hb6.size (fun r hr=>(World.ownsRow.lt hob6 r hr).1))
       unfold eC at hr6
       dsimp only at hr6
       clear ho6 ho7 hg6 hg7 hba hcat hT hq hb5 hB5 d0 x0 htb htk hob6 hb6 hbl
       generalize str (textsI (ps.take k))=st at *
       generalize str (textI p)=sp at *
       go_wp2_with (first|(at_builtin;first|refine Lib.wpList_append_run _ rfl _ _ _ _ rfl _ _ rfl rfl _ _ hr6 ?_|refine Lib.wpList_append_run _ rfl _ _ _ _ rfl _ _ rfl rfl _ _ hr7 ?_)|fail)
       go_roundw
       case rel=>exact⟨k+1,by omega,by go_num,HO7,HOB7,HB7⟩
       case measure=>simp[intOf];omega
      ·obtain rfl:k=ps.length:=by omega
       rw[List.take_length] at HO HOB
       have HSZ2:=Lib.hid (psizD_any u10 (rootsN 0 ps) wr HO.out.ensAt HMY.out (by rw[rootsN_len];omega))
       obtain⟨a9,c9,rfl⟩:=ensAt_form HO.out.ensAt
       by_cases hfit:sizD (rootsN 0 ps)≤b
       ·have hgf:=HGF.out
        rw[if_pos (decide_eq_true hfit)] at hgf
        have HF:=Lib.hid (HSN.out hgf)
        have d5:decide (sizD (rootsN 0 ps)≤b)=true:=decide_eq_true hfit
        clear hgf hfit
        go_wp2_with fail
        refine HSZ2.out.mono ?_
        rintro e w5 ⟨rfl,hb5⟩
        have HE5:=Lib.hid (HO.out.ensAt.below hb5)
        have hob5:=(HOB.out.below hb5)
        have HB5:=Lib.hid (HB4.out.trans ((HB.out.trans (hb5.mono HB.out.size)).mono HB4.out.size))
        have hrs:=fun X (hX:Below w5.heap.size w5 X)=>run_str X _ _ (hob5.bytesAt.below hX)
        rw[str_bI] at hrs
        obtain⟨a8,c8,rfl⟩:=hob5.slice
        have HRS2:=Lib.hid hrs
        have hr0:=hrs w5 (Below.refl _ _)
        have hr1:=hrs w5.drew (Below.drew (Below.refl _ _))
        clear hb5 hob5 hrs
        go_wp2_with fail
        clear HRS2 hr0
        go_region
        all_goals (go_wp2_with fail)
        all_goals (try rw[Exit.noGoto_ret])
        all_goals refine bodyPost_ret (results_tmp4 rfl _ _ _) rfl ⟨_,by rw[HF.out];rfl,by rw[HF.out];exact HE5.out.below (Below.drew (Below.refl _ _)),HB5.out.drew⟩
       ·have hgf:=HGF.out
        rw[if_neg (by rw[decide_eq_false hfit];simp)] at hgf
        have HG3:=Lib.hid hgf
        have d5:decide (sizD (rootsN 0 ps)≤b)=false:=decide_eq_false hfit
        have hw:IntKind.i64.wrap ((N:Int)*2)=((2*N:Nat):Int):=by rw[IntKind.wrap_i64] <;> omega
        clear hgf hfit
        go_wp2_with fail
        refine HSZ2.out.mono ?_
        rintro e w5 ⟨rfl,hb5⟩
        have HB5:=Lib.hid (HB4.out.trans ((HB.out.trans (hb5.mono HB.out.size)).mono HB4.out.size))
        clear hb5
        go_wp2_with fail
        go_roundw
        case rel=>exact⟨j,2*N,by first|rfl|go_num|(push_cast;rfl),by omega,HN2,HG3,HB5⟩
        case measure=>simp[intOf];omega
 ·rw[chk_bad h1]
  have hq:(chkS l b != 0)=true:=by simpa using h1
  generalize chkS l b=q at *
  obtain⟨av,cv,rfl⟩:=ensAt_form hv
  clear h1 hv
  go_enter Tryz.func30,Tryz.ntmps30
  go_wp2_with fail
  go_step3
  go_wp2_with fail
  refine HCK.out.mono ?_
  rintro e w1 ⟨rfl,hb1⟩
  have HB1:=Lib.hid hb1
  clear hb1
  go_wp2_with fail
  try rw[Exit.noGoto_ret]
  refine bodyPost_ret (results_tmp4 rfl _ _ _) rfl ⟨_,rfl,ens_nil _,HB1.out⟩
end Go.Proofs.YtjkgkmmkehnggaaGreatDoor
