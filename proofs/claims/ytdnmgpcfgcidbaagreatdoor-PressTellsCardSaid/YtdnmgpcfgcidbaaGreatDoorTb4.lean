/- bNa bNb bMT bQd bNc bUb bUe. -/
import Derived.Test.YtdnmgpcfgcidbaaGreatDoorTb3
import Derived.Test.YtdnmgpcfgcidbaaGreatDoorTs
namespace Go.Proofs.YtdnmgpcfgcidbaaGreatDoor
set_option linter.unusedVariables false
set_option linter.unusedSimpArgs false
open Go.RowKit
set_option maxRecDepth 20000
theorem lptr_any (e:En) (w:World):Calls Tryz.prog 121 #[.agg (eC e)] w fun x w'=>x=.returned (.bool (decide (e.rn=0)))∧Below w.heap.size w w':=by
 obtain⟨i,o,l,r⟩:=e
 unfold eC
 dsimp only
 have hd:(r == 0)=decide (r=0):=by rw[Bool.eq_iff_iff];simp
 go_enter Tryz.func121,Tryz.ntmps121
 go_wp2_with fail
 go_ret
 exact⟨ret_b (by first|exact hd|rfl|simp),by go_grown⟩
def IdxP (l:List En) (w:World) (x:Ending) (w':World):Prop:=∃ r:Int,x=.returned (.int .i64 r)∧decide (0≤r)=decide (leavesN l≠[])∧Below w.heap.size w w'
theorem leaves_take {l:List En} (i:Nat) (e:En) (h:l[i]?=some e):leavesN (l.take (i+1))=leavesN (l.take i)++leavesN [e]:=by
 unfold leavesN
 rw[List.take_add_one,h,List.filter_append]
 rfl
theorem leaves_some {l:List En} (i:Nat) (e:En) (h:l[i]?=some e) (hr:e.rn=0):leavesN l≠[]:=by
 intro h0
 unfold leavesN at h0
 rw[List.filter_eq_nil_iff] at h0
 exact h0 e (List.mem_of_getElem? h) (by simpa using hr)
set_option maxHeartbeats 1000000 in
theorem lidx_any (v:Value) (l:List En) (w:World) (hv:EnsAt w v l) (hl:l.length≤100000):Calls Tryz.prog 190 #[v,.func (.func 121) #[] #[]] w (IdxP l w):=by
 obtain⟨a,cap,rfl,h1,h2,hc⟩:=hv
 have HC:=Lib.hid hc
 clear hc
 go_enter Tryz.func190,Tryz.ntmps190
 go_wp2_with fail
 go_loopw [8] (fun s wr=>∃ i:Nat,i≤l.length∧s=.int .i64 i∧Hid (leavesN (l.take i)=[])∧Below w.heap.size w wr) (fun s _=>l.length - (intOf s).toNat)
 case atStart=>exact⟨0,Nat.zero_le _,rfl,Lib.hid rfl,Below.refl _ _⟩
 case round =>
  obtain⟨i,hi,rfl,HM,hbw⟩:=hrel
  by_cases hlt:i<l.length
  ·obtain⟨t,ht⟩:∃ t,l[i]?=some t:=⟨_,List.getElem?_eq_getElem hlt⟩
   obtain⟨g,off,rfl,hg,hcs⟩:=HC.out i t ht
   obtain⟨l0,l1,l2,l3⟩:=cells4 hbw hcs
   have hi2:(i:Int)<(l.length:Int):=by omega
   have HT:=Lib.hid ht
   have HE:=Lib.hid (lptr_any t wr)
   have HTK:=Lib.hid (leaves_take i t ht)
   have HSM:=Lib.hid (leaves_some i t ht)
   clear ht hcs
   obtain⟨p1,p2,p3,p4⟩:=t
   unfold eC at HE
   dsimp only at l0 l1 l2 l3 HE HTK HSM
   by_cases hp:p4=0
   ·have HP:=Lib.hid (HSM.out hp)
    rw[decide_eq_true hp] at HE
    clear hp
    go_wp2_with fail
    refine HE.out.mono ?_
    rintro e w1 ⟨rfl,hb⟩
    have hbw1:=hbw.trans (hb.mono hbw.size)
    clear hb hbw l0 l1 l2 l3 HE
    go_wp2_with fail
    go_ret
    exact⟨i,rfl,by rw[decide_eq_true HP.out,decide_eq_true (by omega)],hbw1⟩
   ·have HP:Hid (leavesN (l.take (i+1))=[]):=Lib.hid (by rw[HTK.out,HM.out];unfold leavesN;simp[hp])
    rw[decide_eq_false hp] at HE
    clear hp
    go_wp2_with fail
    refine HE.out.mono ?_
    rintro e w1 ⟨rfl,hb⟩
    have hbw1:=hbw.trans (hb.mono hbw.size)
    clear hb hbw l0 l1 l2 l3 HE
    go_wp2_with fail
    go_roundw
    case rel=>exact⟨i+1,by omega,by go_num,HP,hbw1⟩
    case measure=>simp[intOf];omega
  ·obtain rfl:i=l.length:=by omega
   rw[List.take_length] at HM
   go_wp2_with fail
   go_ret
   exact⟨-1,rfl,by rw[HM.out];decide,hbw⟩
theorem lcont_any (v:Value) (l:List En) (w:World) (hv:EnsAt w v l) (hl:l.length≤100000):Calls Tryz.prog 122 #[v,.func (.func 121) #[] #[]] w fun x w'=>x=.returned (.bool (decide (leavesN l≠[])))∧Below w.heap.size w w':=by
 have HI:=Lib.hid (lidx_any v l w hv hl)
 obtain⟨av,cv,rfl⟩:=ensAt_form hv
 clear hv
 go_enter Tryz.func122,Tryz.ntmps122
 go_wp2_with fail
 refine HI.out.mono ?_
 rintro x w1 ⟨r,rfl,hr,hb⟩
 have HR:=Lib.hid hr
 clear hr
 go_wp2_with fail
 go_ret
 exact⟨ret_b HR.out,hb⟩
def chkS (l:List En) (b:Int):Int:=if b<1∨16257<b then 2 else if rowN l≠0 then rowN l else if leavesN l≠[] then 14 else 0
set_option maxHeartbeats 1000000 in
theorem lcheck_any (v:Value) (l:List En) (b:Int) (w:World) (hv:EnsAt w v l) (hm:MaysN l) (hl:l.length≤100000) (hb:-9223372036854775808≤b∧b≤9223372036854775807) :
  Calls Tryz.prog 74 #[v,.int .i64 b] w fun x w'=>x=.returned (.int .i64 (chkS l b))∧Below w.heap.size w w':=by
 unfold chkS
 have HR:=Lib.hid (prow_any v l w hv hm)
 have HL:=Lib.hid (fun X (hX:Below w.heap.size w X)=>lcont_any v l X (hv.below hX) hl)
 obtain⟨av,cv,rfl⟩:=ensAt_form hv
 clear hv
 by_cases h1:b<1
 ·rw[if_pos (Or.inl h1)]
  have d1:decide (b<1)=true:=decide_eq_true h1
  clear h1 HR HL
  go_enter Tryz.func74,Tryz.ntmps74
  go_wp2_with fail
  go_ret
  exact⟨rfl,Below.refl _ _⟩
 by_cases h2:16257<b
 ·rw[if_pos (Or.inr h2)]
  have d1:decide (b<1)=false:=decide_eq_false h1
  have d2:decide (16257<b)=true:=decide_eq_true h2
  clear HR HL
  go_enter Tryz.func74,Tryz.ntmps74
  go_wp2_with fail
  go_ret
  exact⟨rfl,Below.refl _ _⟩
 rw[if_neg (by omega)]
 have d1:decide (b<1)=false:=decide_eq_false h1
 have d2:decide (16257<b)=false:=decide_eq_false h2
 by_cases h3:rowN l=0
 ·rw[if_neg (by simpa using h3)]
  rw[h3] at HR
  clear h3
  by_cases h4:leavesN l≠[]
  ·rw[if_pos h4]
   rw[decide_eq_true h4] at HL
   clear h4
   go_enter Tryz.func74,Tryz.ntmps74
   go_wp2_with fail
   refine HR.out.mono ?_
   rintro x w1 ⟨rfl,hb1⟩
   have HB1:=Lib.hid hb1
   clear hb1
   go_wp2_with fail
   refine(HL.out _ HB1.out).mono ?_
   rintro x w2 ⟨rfl,hb2⟩
   have HB2:=Lib.hid (HB1.out.trans (hb2.mono HB1.out.size))
   clear hb2
   go_wp2_with fail
   go_ret
   exact⟨rfl,HB2.out⟩
  ·rw[if_neg h4]
   rw[decide_eq_false h4] at HL
   clear h4
   go_enter Tryz.func74,Tryz.ntmps74
   go_wp2_with fail
   refine HR.out.mono ?_
   rintro x w1 ⟨rfl,hb1⟩
   have HB1:=Lib.hid hb1
   clear hb1
   go_wp2_with fail
   refine(HL.out _ HB1.out).mono ?_
   rintro x w2 ⟨rfl,hb2⟩
   have HB2:=Lib.hid (HB1.out.trans (hb2.mono HB1.out.size))
   clear hb2
   go_wp2_with fail
   go_ret
   exact⟨rfl,HB2.out⟩
 ·rw[if_pos h3]
  have hq:(rowN l != 0)=true:=by simpa using h3
  generalize rowN l=q at *
  clear h3
  go_enter Tryz.func74,Tryz.ntmps74
  go_wp2_with fail
  refine HR.out.mono ?_
  rintro x w1 ⟨rfl,hb1⟩
  have HB1:=Lib.hid hb1
  clear hb1
  go_wp2_with fail
  go_ret
  exact⟨rfl,HB1.out⟩
end Go.Proofs.YtdnmgpcfgcidbaaGreatDoor
namespace Go.Proofs.YtdnmgpcfgcidbaaGreatDoor
set_option linter.unusedVariables false
set_option linter.unusedSimpArgs false
open Go.RowKit Go.Shelf
set_option maxRecDepth 20000
attribute [local go_sem] Oper.semAt_some
theorem cut_lt (n:Nat) (hn:1≤n):∀ (k:Nat) (l:List En),k<(cutN n l).length↔k*n<l.length
 | 0,l=>by
  cases l with
  | nil=>simp[cutN_nil]
  | cons e l=>rw[cutN_step n hn _ (by simp)];simp
 | k+1,l=>by
  by_cases h:l=[]
  ·subst h;simp[cutN_nil]
  ·rw[cutN_step n hn l h,List.length_cons,Nat.add_lt_add_iff_right,cut_lt n hn k (l.drop n),List.length_drop,Nat.succ_mul]
   omega
theorem cut_at (n:Nat) (hn:1≤n):∀ (k:Nat) (l:List En),k*n<l.length→(cutN n l)[k]?=some ((l.drop (k*n)).take n)
 | 0,l,h=>by
  have h0:l≠[]:=by intro e;rw[e] at h;simp at h
  rw[cutN_step n hn l h0];simp
 | k+1,l,h=>by
  have h0:l≠[]:=by intro e;rw[e] at h;simp at h
  rw[cutN_step n hn l h0,List.getElem?_cons_succ,cut_at n hn k (l.drop n) (by rw[List.length_drop];rw[Nat.succ_mul] at h;omega),List.drop_drop,Nat.succ_mul,Nat.add_comm n]
def chV (g off len n k:Nat):Value:=.slice (some ⟨g,off+k*n*4,none⟩) (min n (len - k*n)) (min n (len - k*n))
theorem chV_ens {W:World} {l:List En} {g off cap:Nat} (h:EnsAt W (.slice (some ⟨g,off,none⟩) l.length cap) l) (n k:Nat) (hk:k*n<l.length):EnsAt W (chV g off l.length n k) ((l.drop (k*n)).take n):=by
 have h1:=h.dropS (k*n) (Nat.le_of_lt hk)
 rw[← List.length_drop] at h1
 have h2:=h1.takeS (min n (l.length - k*n)) (by rw[List.length_drop];omega)
 have hl:((l.drop (k*n)).take n).length=min n (l.length - k*n):=by rw[List.length_take,List.length_drop]
 have hm:(l.drop (k*n)).take (min n (l.length - k*n))=(l.drop (k*n)).take n:=by
  rw[List.take_eq_take_iff,List.length_drop];omega
 rw[hm] at h2
 unfold chV
 generalize min n (l.length - k*n)=m at *
 obtain⟨a,c,e,g1,g2,hc⟩:=h2
 injection e with e1 e2 e3
 subst e1
 exact⟨_,_,by rw[hl],by rw[hl];exact Nat.le_refl _,by rw[hl] at g1;omega,hc⟩
set_option maxHeartbeats 4000000 in
set_option maxRecDepth 100000 in
theorem chunk1_seq (l:List En) (g off cap n B0 B1:Nat) (a:Option Addr) (w:World) (hn:1≤n∧n≤9223372036854775807) (ha:l≠[]→a=some ⟨g,off,none⟩) (hcap:l.length≤cap) (hmx:cap≤maxLen) (hll:l.length≤1000000)
  (h0:w.cell? ⟨B0,0,none⟩=some (.slice a l.length cap)) (h1:w.cell? ⟨B1,0,none⟩=some (.int .i64 n)) :
  SeqDBb Tryz.prog 198 #[.pointer (some ⟨B0,0,none⟩),.pointer (some ⟨B1,0,none⟩)] (fun k=>#[chV g off l.length n k]) (cutN n l).length (fun _=>False) (fun b=>b=B0∨b=B1) (fun _ _=>True) (fun _=>True) w:=by
 intro n0 lp J Jx S0 W hW hJ hJx hG hS0 hY hj0
 have hn0:¬ S0 B0:=fun h=>(hS0 _ h).2 (.inl rfl)
 have hn1:¬ S0 B1:=fun h=>(hS0 _ h).2 (.inr rfl)
 have g0:=ecell_later hW h0
 have g1:=ecell_later hW h1
 unfold maxLen at hmx
 have HJ:=Lib.hid hJ
 have HG:=Lib.hid hG
 have HY:=Lib.hid hY
 have HN0:=Lib.hid hn0
 have HN1:=Lib.hid hn1
 have HA:=Lib.hid ha
 have HG0:=Lib.hid g0
 have HG1:=Lib.hid g1
 have HLT:=Lib.hid (fun k=>cut_lt n hn.1 k l)
 have HCL:Hid ((cutN n l).length=(cutN n l).length):=Lib.hid rfl
 clear hJ hY hS0 hJx hn0 hn1 hG ha h0 h1
 refine callsIn_of_wp Tryz.func198 rfl trivial ?_ rfl
 simp only[Tryz.ntmps198,List.size_toArray,List.length_cons,List.length_nil,Nat.reduceAdd,Nat.reduceSub,Array.replicate_succ,Array.replicate_zero,List.push_toArray,List.append_toArray,List.nil_append,List.cons_append]
 clear g0 g1
 gi_wp2
 gi_loopw [4] (fun i wr=>∃ k q:Nat,Hid (q=k*n)∧i=.int .i64 (q:Int)∧Hid (k≤(cutN n l).length)∧∃ S,Hid (J k S wr)∧Hid (KeepsS S0 S W wr)) (fun i _=>l.length - (intOf i).toNat)
 case atStart=>exact⟨0,0,Lib.hid (by rw[Nat.zero_mul]),rfl,Lib.hid (Nat.zero_le _),S0,Lib.hid hj0,Lib.hid (.refl _ _)⟩
 case round =>
  obtain⟨k,q,HQ,rfl,HKL,S,HJs,HK⟩:=hrel
  have c0:=HK.out.cell (p:=⟨B0,0,none⟩) HN0.out HG0.out
  have c1:=HK.out.cell (p:=⟨B1,0,none⟩) HN1.out HG1.out
  by_cases hlt:q<l.length
  ·have hne:l≠[]:=by rintro rfl;simp at hlt
   have ha:=HA.out hne
   subst ha
   have hkl:=(HLT.out k).2 (by rw[← HQ.out];exact hlt)
   have HKN:=Lib.hid hkl
   have hJd:J k S wr.drew:=HJ.out.grow (s:=(k,S)) HJs.out (Below.drew (Below.refl _ _))
   have HJD:=Lib.hid hJd
   have HKD:=Lib.hid (KeepsS.below S (Below.drew (Below.refl wr.heap.size wr)))
   have d0:=ecell_later (Below.drew (Below.refl wr.heap.size wr)) c0
   have d1:=ecell_later (Below.drew (Below.refl wr.heap.size wr)) c1
   have hq1:(q:Int)<(l.length:Int):=by omega
   have hq2:(q:Int)≤(l.length:Int):=by omega
   have hq3:¬ cap - q=0:=by omega
   obtain⟨m,hm⟩:∃ m:Nat,min n (l.length - q)=m:=⟨_,rfl⟩
   have hm2:(if l.length - q<n then ((l.length - q:Nat):Int) else (n:Int))=(m:Int):=by split <;> omega
   have hm3:m≤l.length - q:=by omega
   have hm4:1≤m:=by omega
   have hw1:IntKind.i64.wrap ((q:Int)+(m:Int))=((q+m:Nat):Int):=by rw[IntKind.wrap_i64] <;> omega
   have hw2:IntKind.i64.wrap ((q:Int)+(n:Int))=((q+n:Nat):Int):=by
    have:=HQ.out
    cases k with
    | zero=>rw[IntKind.wrap_i64] <;> omega
    | succ k=>rw[Nat.succ_mul] at this;rw[IntKind.wrap_i64] <;> omega
   have hv:chV g off l.length n k=.slice (some ⟨g,off+q*4,none⟩) m m:=by unfold chV;rw[← HQ.out,hm]
   obtain⟨fn,tmps,assign,body,hy,hR⟩:=HY.out _ S _ HJD.out hkl
   rw[hv] at hy
   have HR:=Lib.hid hR
   have HM:=Lib.hid hm
   have HM2:=Lib.hid (And.intro hm2 (show min (n:Int) ((l.length - q:Nat):Int)=(m:Int) by omega))
   clear hkl hJd hne hR hv hm hm2
   gi_wp2
   gi_region
   first|rw[HM2.out.1]|rw[HM2.out.2]
   gi_wp2
   refine⟨noDepth,HR.out.mono ?_⟩
   rintro x W3 (⟨rfl,S3,hJ3,hk3⟩|⟨rfl,hJx3,_⟩)
   ·have HJ3:=Lib.hid hJ3
    have HK3:=Lib.hid ((HK.out.trans HKD.out).trans hk3)
    have e1:=HK3.out.cell (p:=⟨B1,0,none⟩) HN1.out HG1.out
    have HQ2:Hid (q+n=(k+1)*n):=Lib.hid (by rw[Nat.succ_mul,← HQ.out])
    have hme:l.length - (q+n)<l.length - q:=by omega
    clear hJ3 hk3 c0 c1 d0 d1 HK HKD HJD HJs hy HR HM HM2 HN0 HA
    gi_wp2
    go_roundw
    case rel=>exact⟨k+1,q+n,HQ2,by first|rfl|(push_cast;rfl),Lib.hid HKN.out,S3,HJ3,HK3⟩
    case measure=>simp[intOf];omega
   ·have HJ3:=Lib.hid hJx3
    clear hJx3 c0 c1 d0 d1 HK HKD HJD HJs hy HR HM HM2 HN0 HA
    gi_wp2
    refine bodyPost_ret (results_none rfl _ _ _) rfl ?_
    exact⟨⟨_,rfl⟩,.inr ⟨k+1,HKN.out,HJ3.out⟩⟩
  ·have hq1:¬ (q:Int)<(l.length:Int):=by omega
   have HKE:Hid (k=(cutN n l).length):=Lib.hid (by
    have h1:=HKL.out
    have h2:=mt (HLT.out k).1 (by rw[← HQ.out];exact hlt)
    omega)
   gi_wp2
   go_end0
   have hjz:J (cutN n l).length S wr:=by rw[← HKE.out];exact HJs.out
   first|exact⟨⟨_,rfl⟩,.inl ⟨S,hjz,trivial⟩⟩|exact⟨⟨_,rfl⟩,.inl ⟨S,hjz⟩⟩
theorem chunk_any (v:Value) (l:List En) (n:Nat) (w:World) (hv:EnsAt w v l) (hn:1≤n∧n≤9223372036854775807) :
  Calls Tryz.prog 138 #[v,.int .i64 n] w fun e w'=>e=.returned (.func (.func 198) #[] #[.pointer (some ⟨w.heap.size,0,none⟩),.pointer (some ⟨w.heap.size+1,0,none⟩)])∧w'.cell? ⟨w.heap.size,0,none⟩=some v∧w'.cell? ⟨w.heap.size+1,0,none⟩=some (.int .i64 n)∧Below w.heap.size w w':=by
 obtain⟨av,cv,rfl⟩:=ensAt_form hv
 clear hv
 have hn1:¬ (n:Int)<1:=by omega
 have d1:decide ((n:Int)<1)=false:=decide_eq_false hn1
 go_enter Tryz.func138,Tryz.ntmps138
 go_wp2_with fail
 go_ret
 exact⟨rfl,by simp,by simp,by go_grown⟩
end Go.Proofs.YtdnmgpcfgcidbaaGreatDoor
namespace Go.Proofs.YtdnmgpcfgcidbaaGreatDoor
set_option linter.unusedVariables false
set_option linter.unusedSimpArgs false
open Go.RowKit
set_option maxRecDepth 20000
open Go.RowKit
set_option maxRecDepth 20000
theorem info_pv:(Tryz.prog.info? 124).map (fun i=>(i.zero,i.size,i.bytes))=some (some (.agg #[.int .u64 0,.int .u64 0,.int .u32 0,.int .u32 0]),4,24):=by kernel_rfl
end Go.Proofs.YtdnmgpcfgcidbaaGreatDoor
namespace Go.Proofs.YtdnmgpcfgcidbaaGreatDoor
set_option linter.unusedVariables false
set_option linter.unusedSimpArgs false
open Go.RowKit
def CloneEndBb (l:List En) (w:World) (x:Ending) (w':World):Prop:=∃ v',x=.returned v'∧EnsAt w' v' l∧(∀ a n c,v'=.slice (some a) n c→w.heap.size≤a.block∧a.block<w'.heap.size)∧Below w.heap.size w w'
theorem ens_news {W:World} {ad:Addr} {cap:Nat} {l:List En} (h:EnsAt W (.slice (some ad) l.length cap) l):∀ j u,(flat4 l)[j]?=some u→W.cell? (ad.add j)=some u:=by
 obtain⟨a,cap',he,h1,h2,hc⟩:=h
 cases he
 intro j u hu
 have hj:j<l.length*4:=by rw[← flat4_len];exact(List.getElem?_eq_some_iff.1 hu).1
 obtain⟨t,ht⟩:∃ t,l[j / 4]?=some t:=⟨_,List.getElem?_eq_getElem (by omega)⟩
 obtain⟨g,off,ha,_,c0,c1,c2,c3⟩:=hc (j / 4) t ht
 obtain⟨f0,f1,f2,f3⟩:=flat4_at l (j / 4) t ht
 injection ha with ha
 subst ha
 have hadd:(⟨g,off,none⟩:Addr).add j=⟨g,off+j,none⟩:=by simp[Addr.add]
 rw[hadd]
 rcases(by omega:j=j / 4*4∨j=j / 4*4+1∨j=j / 4*4+2∨j=j / 4*4+3) with e|e|e|e
 ·rw[e,f0] at hu;rw[← hu];rw[show off+j=off+j / 4*4 from by omega];exact c0
 ·rw[e,f1] at hu;rw[← hu];rw[show off+j=off+j / 4*4+1 from by omega];exact c1
 ·rw[e,f2] at hu;rw[← hu];rw[show off+j=off+j / 4*4+2 from by omega];exact c2
 ·rw[e,f3] at hu;rw[← hu];rw[show off+j=off+j / 4*4+3 from by omega];exact c3
theorem slice_some_eqBb (ad:Addr) (n c:Nat) (w:World):(Op.equal 55 (.slice (some ad) n c) (.slice none 0 0)).run Tryz.prog w=.ok false w:=by
 rw[Op.equal,show Op.maxDepth=9999+1 from rfl]
 unfold Op.equalIn
 simp[go_sem]
theorem slice_some_eqlBb (ad:Addr) (n c:Nat) (w:World):(binOp BinOp.eql 55 (.slice (some ad) n c) (.slice none 0 0)).run Tryz.prog w=.ok (.bool false) w:=by
 simp[binOp,go_sem,slice_some_eqBb]
theorem slice_none_eqBb (c:Nat) (w:World):(Op.equal 55 (.slice none 0 c) (.slice none 0 0)).run Tryz.prog w=.ok true w:=by
 rw[Op.equal,show Op.maxDepth=9999+1 from rfl]
 unfold Op.equalIn
 simp[go_sem]
theorem slice_none_eqlBb (c:Nat) (w:World):(binOp BinOp.eql 55 (.slice none 0 c) (.slice none 0 0)).run Tryz.prog w=.ok (.bool true) w:=by
 simp[binOp,go_sem,slice_none_eqBb]
set_option maxRecDepth 20000 in
set_option maxHeartbeats 1000000 in
theorem pclone_any (v:Value) (l:List En) (w:World) (hv:EnsAt w v l) (hl:l.length≤4096):Calls Tryz.prog 76 #[v] w (CloneEndBb l w):=by
 obtain⟨i0,hi,hz0,hz1,hz2⟩:=info_parts info_pv
 have HI0:=Lib.hid hi
 have HZ0:=Lib.hid hz0
 have HZ1:=Lib.hid hz1
 have HZ2:=Lib.hid hz2
 clear hi hz0 hz1 hz2
 have hv':=hv
 obtain⟨a,cap,rfl,h1,h2,hc⟩:=hv'
 cases a with
 | none =>
  have hl0:l=[]:=by
   cases l with
   | nil=>rfl
   | cons t l=>obtain⟨g,off,ha,_⟩:=hc 0 t rfl;cases ha
  subst hl0
  clear hc hv
  have hneq:=fun W=>slice_none_eqlBb cap W
  go_enter Tryz.func76,Tryz.ntmps76
  go_wp2_with fail
  go_ret
  exact⟨_,rfl,ens_nil _,fun a n c h=>(by cases h),Below.refl _ _⟩
 | some ad =>
  have HV:=Lib.hid hv
  have hneq:=fun W=>slice_some_eqlBb ad l.length cap W
  clear hc hv
  go_enter Tryz.func76,Tryz.ntmps76
  have HO:Hid ((w.alloc (.cells #[] 124)).ownsRow w.heap.size 124 4 (.slice (some ⟨w.heap.size,0,none⟩) 0 0) 0 (flat4 [])):=Lib.hid ⟨rfl,.inr ⟨w.heap.size,0,#[],rfl,Nat.le_refl _,heap_alloc_new w _,Nat.le_refl _,Nat.zero_le _,rfl,rfl⟩⟩
  have HNW:=Lib.hid (ens_news (HV.out.below ((Below.refl w.heap.size w).alloc (Nat.le_refl _) (.cells #[] 124))))
  go_wp2_with (first|(at_builtin;refine wpList_append_own _ rfl _ _ 55 rfl w.heap.size 124 i0 (.agg #[.int .u64 0,.int .u64 0,.int .u32 0,.int .u32 0]) 4 24 Tryz.underlying55 HI0.out HZ0.out HZ1.out HZ2.out rfl (by decide) _ _ _ rfl HO.out ad l.length cap (flat4 l) rfl (flat4_len l) HNW.out (flat4_cells l) ?c4 ?c5 ?c6 ?_)|fail)
  case c4=>unfold maxLen;omega
  case c5=>omega
  case c6=>simp
  intro v' w5 hown' hgr _
  have hO:OwnE w5 w.heap.size 124 v' l:=owne_conv hown' (by omega) (by simp[flat4])
  have hb5:Below w.heap.size w w5:=((Below.refl w.heap.size w).alloc (Nat.le_refl _) _).grown hgr (by simp) (fun g hg=>(World.ownsRow.lt HO.out g hg).1)
  have HO5:=Lib.hid hO
  have HB5:=Lib.hid hb5
  clear hown' hgr hO hb5
  go_wp2_with fail
  go_ret
  exact⟨_,rfl,HO5.out.ensAt,fun a n c h=>(HO5.out.lt a.block (by have h':v'=.slice (some a) n c:=h;rw[h'];rfl)),HB5.out⟩
end Go.Proofs.YtdnmgpcfgcidbaaGreatDoor
namespace Go.Proofs.YtdnmgpcfgcidbaaGreatDoor
set_option linter.unusedVariables false
set_option linter.unusedSimpArgs false
open Go.RowKit Go.Shelf
set_option maxRecDepth 20000
attribute [local go_sem] Oper.semAt_some
theorem pinfoRs:(Tryz.prog.info? 55).map (fun i=>(i.zero,i.size,i.bytes))=some (some (.slice none 0 0),1,24):=by kernel_rfl
theorem EnsAt.grownR {X Y:World} {row:Option Nat} {v:Value} {l:List En} (h:EnsAt X v l) (hg:X.grownBy Y row) (hr:∀ r,row=some r→∃ o:Obj,X.heap[r]?=some o∧o.isCells=false):EnsAt Y v l:=by
 obtain⟨a,cap,rfl,h1,h2,hc⟩:=h
 refine⟨a,cap,rfl,h1,h2,fun k t ht=>?_⟩
 obtain⟨g,off,rfl,hg',c0,c1,c2,c3⟩:=hc k t ht
 have hne:row≠some g:=by
  intro e
  obtain⟨o,ho,hn⟩:=hr g e
  have c:=c0
  unfold World.cell? at c
  simp only[ho] at c
  cases o <;> first|(simp[Obj.isCells] at hn;done)|(simp at c;done)
 have hb:Y.heap[g]?=X.heap[g]?:=hg.block g hg' (fun e=>hne e.symm)
 exact⟨g,off,rfl,Nat.lt_of_lt_of_le hg' hg.size,(World.cell?_of_block (a:=⟨g,off+k*4,none⟩) hb).trans c0,(World.cell?_of_block (a:=⟨g,off+k*4+1,none⟩) hb).trans c1,(World.cell?_of_block (a:=⟨g,off+k*4+2,none⟩) hb).trans c2,(World.cell?_of_block (a:=⟨g,off+k*4+3,none⟩) hb).trans c3⟩
theorem EnsAt.keepB {X Y:World} {v:Value} {l:List En} (h:EnsAt X v l) (hs:X.heap.size≤Y.heap.size) (hk:∀ a n c,v=.slice (some a) n c→a.block<X.heap.size→Y.heap[a.block]?=X.heap[a.block]?):EnsAt Y v l:=by
 obtain⟨a,cap,rfl,h1,h2,hc⟩:=h
 refine⟨a,cap,rfl,h1,h2,fun k t ht=>?_⟩
 obtain⟨g,off,rfl,hg',c0,c1,c2,c3⟩:=hc k t ht
 have hb:Y.heap[g]?=X.heap[g]?:=hk ⟨g,off,none⟩ _ _ rfl hg'
 exact⟨g,off,rfl,Nat.lt_of_lt_of_le hg' hs,(World.cell?_of_block (a:=⟨g,off+k*4,none⟩) hb).trans c0,(World.cell?_of_block (a:=⟨g,off+k*4+1,none⟩) hb).trans c1,(World.cell?_of_block (a:=⟨g,off+k*4+2,none⟩) hb).trans c2,(World.cell?_of_block (a:=⟨g,off+k*4+3,none⟩) hb).trans c3⟩
theorem ens_base {w:World} {v:Value} {l:List En} (h:EnsAt w v l):∃ a cap g off,v=.slice a l.length cap∧l.length≤cap∧cap≤maxLen∧(l≠[]→a=some ⟨g,off,none⟩):=by
 obtain⟨a,cap,rfl,h1,h2,hc⟩:=h
 cases l with
 | nil=>exact⟨a,cap,0,0,rfl,h1,h2,fun h=>absurd rfl h⟩
 | cons e l =>
  obtain⟨g,off,rfl,_⟩:=hc 0 e rfl
  exact⟨_,cap,g,off,rfl,h1,h2,fun _=>rfl⟩
theorem rsappend_run (W:World) (B:Nat) (ty:TypeId) (v x:Value) (vs:List Value) (b c:Nat) (hown:OwnV W B 55 v vs) (hx:W.cell? ⟨b,0,none⟩=some x) (h1:x.oneCell'=true) (hl:vs.length≤1000000) (hB:B≤W.heap.size) :
  ∃ v' w',(Builtin.append_ #[159,159] ty #[v,.slice (some ⟨b,0,none⟩) 1 c]).run Tryz.prog W=.ok v' w'∧OwnV w' B 55 v' (vs++[x])∧W.grownBy w' v.ownBlock∧(v'.ownBlock=v.ownBlock∨∃ g,v'.ownBlock=some g∧W.heap.size≤g):=by
 obtain⟨i0,hi,hz0,hz1,hz2⟩:=info_parts pinfoRs
 have hnews:∀ j u,[x][j]?=some u→W.cell? ((⟨b,0,none⟩:Addr).add j)=some u:=by
  intro j u hu
  match j,hu with
  | 0,hu=>simp only[List.getElem?_cons_zero,Option.some.injEq] at hu;rw[← hu];exact hx
  | j+1,hu=>simp at hu
 have hone:∀ u ∈ [x],u.oneCell'=true:=by intro u hu;simp at hu;subst hu;exact h1
 have ht:=Tryz.underlying159
 obtain⟨v',w',hr,h2,h3,h4⟩:=run_append_own (P:=Tryz.prog) W B 159 ty 55 i0 _ 1 24 ht hi hz0 hz1 hz2 rfl (by omega) v vs.length vs hown ⟨b,0,none⟩ 1 c [x] rfl hnews hone (by unfold maxLen;omega) (by omega) hB
 refine⟨v',w',hr,vals_conv h2 (by simp) rfl,h3,?_⟩
 rcases hown.2 with ⟨rfl,hn⟩|⟨g,cap,cur,rfl,hbg,hg,hnc,hcm,hcs,htake⟩
 ·obtain⟨_,_,hr2,h22,_,_⟩:=run_append_own (P:=Tryz.prog) W W.heap.size 159 ty 55 i0 _ 1 24 ht hi hz0 hz1 hz2 rfl (by omega) (.slice none 0 0) vs.length vs ⟨hown.1,.inl ⟨rfl,hn⟩⟩ ⟨b,0,none⟩ 1 c [x] rfl hnews hone (by unfold maxLen;omega) (by omega) (Nat.le_refl _)
  rw[hr] at hr2
  injection hr2 with e1 e2
  subst e1 e2
  rcases h22.2 with ⟨rfl,_⟩|⟨g,cap,cur,rfl,hg,_⟩
  ·exact .inl rfl
  ·exact .inr ⟨g,rfl,hg⟩
 ·have hL:vs.length=vs.length*i0.size:=by rw[hz1];omega
  by_cases hroom:vs.length+1≤cap
  ·have hr2:=run_append_room (P:=Tryz.prog) W 159 ty 55 i0 ht hi g vs.length cap cur hg ⟨b,0,none⟩ 1 c [x] (by rw[hz1];rfl) hnews hone hroom (by rw[hz1];simp;omega)
   rw[hr] at hr2
   injection hr2 with e1 e2
   rw[e1]
   exact .inl rfl
  ·have hr2:=run_append_grow (P:=Tryz.prog) W 159 ty 55 i0 _ ht hi hz0 ⟨g,0,none⟩ vs.length cap vs hL (World.ownsRow.cells hown rfl) ⟨b,0,none⟩ 1 c [x] (by rw[hz1];rfl) hnews (by omega) (by omega) (growslice_fits (by omega) (by rw[hz2];omega))
   rw[hr] at hr2
   injection hr2 with e1 e2
   rw[e1]
   exact .inr ⟨_,rfl,Nat.le_refl _⟩
structure CutP (w:World) (n0:Nat) (ps:List (List En)) (vo:Value) (vs:List Value) (W:World):Prop where
 bx:Boxed W n0 159 vo
 row:OwnV W (n0+1) 55 vo vs
 pcs:Pcs W vs ps
 off:∀ (k:Nat) (a:Addr) (n c:Nat),vs[k]?=some (Value.slice (some a) n c)→n0<a.block∧a.block<W.heap.size∧vo.ownBlock≠some a.block
 bel:Below n0 w W
def blkC (n0:Nat) (vo:Value) (b:Nat):Prop:=b=n0∨vo.ownBlock=some b
section
variable {w W W2 W5:World} {n0:Nat} {ps:List (List En)} {vo:Value} {vs:List Value}
theorem CutP.lt (h:CutP w n0 ps vo vs W):∀ b,blkC n0 vo b→b<W.heap.size:=by
 rintro b (rfl|hb)
 ·exact h.bx.lt
 ·exact(h.row.lt b hb).2
theorem CutP.grown {row:Option Nat} (h:CutP w n0 ps vo vs W) (hg:W.grownBy W2 row) (hr:∀ r,row=some r→n0≤r∧∃ o:Obj,W.heap[r]?=some o∧o.isCells=false):CutP w n0 ps vo vs W2:=by
 refine⟨h.bx.kept hg (fun e=>?_),World.ownsRow.kept h.row hg ?_,⟨h.pcs.1,fun k x p hx hp=>(h.pcs.2 k x p hx hp).grownR hg (fun r e=>(hr r e).2)⟩,fun k a n c hk=>?_,h.bel.grown hg (Nat.le_of_lt h.bx.lt) (fun r e=>(hr r e).1)⟩
 ·obtain⟨_,o,ho,hn⟩:=hr n0 e.symm
  rw[show W.heap[n0]?=_ from h.bx] at ho
  cases ho;cases hn
 ·rcases h.row.2 with ⟨rfl,_⟩|⟨g,cap,cur,rfl,_,hgb,_⟩
  ·exact .inl rfl
  ·refine .inr fun e'=>?_
   obtain⟨_,o,ho,hn⟩:=hr g e'.symm
   rw[hgb] at ho
   cases ho;cases hn
 ·obtain⟨o1,o2,o3⟩:=h.off k a n c hk
  exact⟨o1,Nat.lt_of_lt_of_le o2 hg.size,o3⟩
theorem CutP.step {x v5:Value} {p:List En} {o:Obj} (h:CutP w n0 ps vo vs W) (hb2:Below W.heap.size W W2) (hx:EnsAt W2 x p) (hxb:∀ a n c,x=.slice (some a) n c→W.heap.size≤a.block∧a.block<W2.heap.size)
  (ho5:OwnV W5 (n0+1) 55 v5 (vs++[x])) (hg5:(W2.alloc o).grownBy W5 vo.ownBlock) (hl:v5.ownBlock=vo.ownBlock∨∃ g,v5.ownBlock=some g∧(W2.alloc o).heap.size≤g) :
  CutP w n0 (ps++[p]) v5 (vs++[x]) (W5.setCell ⟨n0,0,none⟩ v5)∧KeepsS (blkC n0 vo) (blkC n0 v5) W (W5.setCell ⟨n0,0,none⟩ v5)∧Boxed W5 n0 159 vo:=by
 have hn0:n0<W.heap.size:=h.bx.lt
 have hba:Below W.heap.size W (W2.alloc o):=hb2.alloc hb2.size o
 have bx2:Boxed (W2.alloc o) n0 159 vo:=(hba.block n0 hn0).trans h.bx
 have row2:OwnV (W2.alloc o) (n0+1) 55 vo vs:=h.row.below hba
 have bx5:Boxed W5 n0 159 vo:=bx2.kept hg5 (bx2.not_row (by decide) row2)
 have hne5:some n0≠v5.ownBlock:=bx5.not_row (by decide) ho5
 have hset:∀ b,b≠n0→(W5.setCell ⟨n0,0,none⟩ v5).heap[b]?=W5.heap[b]?:=fun b hb=>Below.heap_setCell _ _ _ _ (by simpa using hb)
 have hsz:(W5.setCell ⟨n0,0,none⟩ v5).heap.size=W5.heap.size:=by simp
 have hs2:=hb2.size
 have hsa:(W2.alloc o).heap.size=W2.heap.size+1:=by simp
 have hs5:W2.heap.size+1≤W5.heap.size:=by have:=hg5.size;rw[hsa] at this;exact this
 have keepP:∀ b,b≠n0→vo.ownBlock≠some b→b<(W2.alloc o).heap.size→(W5.setCell ⟨n0,0,none⟩ v5).heap[b]?=(W2.alloc o).heap[b]?:=fun b h1 h2 h3=>(hset b h1).trans (hg5.block b h3 (fun e=>h2 e.symm))
 refine⟨⟨bx5.set v5,ho5.keep (fun k hk=>hset k (fun e=>hne5 (by rw[hk,e]))),?_,?_,?_⟩,⟨?_,?_,?_⟩,bx5⟩
 ·refine Pcs.snoc ⟨h.pcs.1,fun k y q hy hq=>((h.pcs.2 k y q hy hq).below hba).keepB (by rw[hsz,hsa];exact hs5) (fun a n c e hlt=>?_)⟩ ((hx.below ((Below.refl _ W2).alloc (Nat.le_refl _) o)).keepB (by rw[hsz,hsa];exact hs5) (fun a n c e hlt=>?_))
  ·subst e
   obtain⟨o1,o2,o3⟩:=h.off k a n c hy
   exact keepP a.block (by omega) o3 hlt
  ·have hq:=hxb a n c e
   exact keepP a.block (by omega) (fun e2=>by have:=(h.row.lt _ e2).2;omega) hlt
 ·intro k a n c hk
  rw[hsz]
  rcases Nat.lt_or_ge k vs.length with hlt|hge
  ·rw[List.getElem?_append_left hlt] at hk
   obtain⟨o1,o2,o3⟩:=h.off k a n c hk
   refine⟨o1,by omega,fun e=>?_⟩
   rcases hl with hl|⟨g,hl,hg⟩
   ·exact o3 (by rw[← hl];exact e)
   ·rw[hl] at e;cases e;rw[hsa] at hg;omega
  ·rw[List.getElem?_append_right hge] at hk
   have h0:k - vs.length=0:=by
    have:=(List.getElem?_eq_some_iff.1 hk).1
    simp at this
    omega
   rw[h0] at hk
   simp at hk
   have hq:=hxb a n c hk
   refine⟨by omega,by omega,fun e=>?_⟩
   rcases hl with hl|⟨g,hl,hg⟩
   ·rw[hl] at e
    have:=(h.row.lt _ e).2;omega
   ·rw[hl] at e;cases e;rw[hsa] at hg;omega
 ·exact((h.bel.trans (hba.mono (Nat.le_of_lt hn0))).grown hg5 (by rw[hsa];omega) (fun k hk=>by have:=(h.row.lt k hk).1;omega)).setCell (p:=⟨n0,0,none⟩) (Nat.le_refl _) v5
 ·rw[hsz];omega
 ·intro b o' hb ho
  have h1:b≠n0:=fun e=>hb (.inl e)
  have h2:vo.ownBlock≠some b:=fun e=>hb (.inr e)
  have h3:=hlt_of ho
  exact(keepP b h1 h2 (by rw[hsa];omega)).trans ((hba.block b h3).trans ho)
 ·rintro b (rfl|hb)
  ·exact .inl (.inl rfl)
  ·rcases hl with hl|⟨g,hl,hg⟩
   ·exact .inl (.inr (by rw[← hl];exact hb))
   ·rw[hl] at hb;cases hb;rw[hsa] at hg;exact .inr (by omega)
end
def CutI (w:World) (n0:Nat) (P:List (List En)) (k:Nat) (S:Nat→Prop) (W:World):Prop:=∃ vo vs,CutP w n0 (P.take k) vo vs W∧∀ b,S b↔blkC n0 vo b
theorem cutI_bears (w:World) (n0:Nat) (P:List (List En)) (B:Nat) (hB:n0≤B):Bears2Bb (fun _=>False) B (CutI w n0 P):=by
 rintro⟨k,S⟩ X Y row ⟨vo,vs,h,hS⟩ hg hr
 refine⟨vo,vs,h.grown hg (fun r e=>?_),hS⟩
 rcases hr r e with h|h
 ·exact h.elim
 ·exact⟨Nat.le_trans hB h.1,h.2⟩
theorem CutI.lt {w:World} {n0:Nat} {P:List (List En)} {k:Nat} {S:Nat→Prop} {W:World} (h:CutI w n0 P k S W):∀ b,S b→b<W.heap.size:=by
 obtain⟨vo,vs,h,hS⟩:=h
 exact fun b hb=>h.lt b ((hS b).1 hb)
set_option maxRecDepth 100000 in
set_option maxHeartbeats 4000000 in
theorem cut14_any (v:Value) (l:List En) (n:Int) (w:World) (hv:EnsAt w v l) (hm:MaysN l) (hl:l.length≤200) (hn:-9223372036854775808≤n∧n≤9223372036854775807) :
  Calls Tryz.prog 77 #[v,.int .i64 n] w fun e w'=>∃ v',e=.returned v'∧PcsAt w' v' (cutZ n l)∧Below w.heap.size w w':=by
 by_cases h1:n<1
 ·have hz:cutZ n l=[]:=by unfold cutZ;rw[if_pos h1]
  have HZ:=Lib.hid hz
  have d1:decide (n<1)=true:=decide_eq_true h1
  obtain⟨av,cv,rfl⟩:=ensAt_form hv
  clear hz hv h1
  go_enter Tryz.func77,Tryz.ntmps77
  go_wp2_with fail
  go_ret
  exact⟨_,rfl,by rw[HZ.out];exact⟨[],valsAt_nil _,pcs_nil _⟩,Below.refl _ _⟩
 ·obtain⟨N,rfl⟩:∃ N:Nat,n=N:=⟨n.toNat,by omega⟩
  have hN:1≤N∧N≤9223372036854775807:=by omega
  have HZ:Hid (cutZ (N:Int) l=cutN N l):=Lib.hid (by unfold cutZ;rw[if_neg h1,Int.toNat_natCast])
  have d1:decide ((N:Int)<1)=false:=decide_eq_false h1
  have HV:=Lib.hid hv
  have HCH:=Lib.hid (fun X (hX:Below w.heap.size w X)=>chunk_any v l N X (hv.below hX) hN)
  obtain⟨a,cap,g,off,rfl,hcap,hmx,ha⟩:=ens_base hv
  have HSQ:=Lib.hid (fun X B0 B1 (c0:X.cell? ⟨B0,0,none⟩=some (.slice a l.length cap)) (c1:X.cell? ⟨B1,0,none⟩=some (.int .i64 N))=>chunk1_seq l g off cap N B0 B1 a X hN ha hcap hmx (by omega) c0 c1)
  have HA:=Lib.hid ha
  have HN:=Lib.hid hN
  clear hv ha hcap hmx hN
  refine(callsIn_wide (n:=3)).1 ?_
  refine callsIn_of_wp_marks Tryz.func77 rfl trivial ?_ rfl
  simp only[Tryz.ntmps77,List.size_toArray,List.length_cons,List.length_nil,Nat.reduceAdd,Nat.reduceSub,Array.replicate_succ,Array.replicate_zero,List.push_toArray,List.append_toArray,List.nil_append,List.cons_append]
  gi_wp2
  refine⟨trivial,(callsIn_wide.2 (HCH.out _ ((Below.refl _ w).alloc (Nat.le_refl _) _))).mono ?_⟩
  rintro x w2 ⟨rfl,hc0,hc1,hb2⟩
  have hP2:CutP w w.heap.size [] (.slice none 0 0) [] w2:=⟨(hb2.block _ (by simp)).trans (Boxed.new w _ _),ownV_nil _ _ _,pcs_nil _,fun k a n c h=>by simp at h,((Below.refl _ w).alloc (Nat.le_refl _) _).trans (hb2.mono (by simp))⟩
  have hz2:=ecell_lt hc1
  have HP2:=Lib.hid hP2
  have HS2:=Lib.hid (HSQ.out w2 _ _ hc0 hc1)
  simp only[World.size_alloc] at hz2
  simp only[World.size_alloc] at HS2
  clear hc0 hc1 hP2 HSQ HCH hb2
  gi_wp2
  refine range_d1Bb (n:=3) (val:=fun k=>chV g off l.length N k) (p:=12) (r:=6) rfl (enters_of Tryz.func198 (by kernel_rfl) rfl) HS2.out (Below.refl _ _) (fun _ h=>h.elim) ?hV
   (CutI w w.heap.size (cutN N l)) (fun _ _ _=>False) ?hI (fun _ _ _ _ _ h _ _=>h) (fun k S W h=>⟨trivial,h.lt⟩) (fun b=>b=w.heap.size) ?hS0 ?h0 (fun _ _ _ _ _ _ _ _=>trivial) ?assign ?body ?done (fun _ _ _ _ _ _ h _=>h.elim)
  case hV=>rintro b (rfl|rfl) <;> omega
  case hI=>exact cutI_bears w _ _ _ (by omega)
  case hS0=>rintro b rfl;exact⟨by omega,by omega⟩
  case h0=>exact⟨_,_,HP2.out,fun b=>by unfold blkC;simp[Value.ownBlock]⟩
  case assign =>
   intro lq k W' K hK
   simp only[List.setIfInBounds_toArray,List.set_cons_zero,List.set_cons_succ] at hK ⊢
   gi_wp2
   exact hK
  case body =>
   rintro lq k S W hlq ⟨vo,vs,hP,hS⟩ hk
   have hS':S=blkC w.heap.size vo:=funext fun b=>propext (hS b)
   subst hS'
   clear hS
   have hkl:=(cut_lt N HN.out.1 k l).1 hk
   have hat:=cut_at N HN.out.1 k l hkl
   have hne:l≠[]:=by rintro rfl;simp at hkl
   have ha:=HA.out hne
   subst ha
   have hx:=chV_ens (HV.out.below hP.bel) N k hkl
   have hpl:((l.drop (k*N)).take N).length≤200:=by rw[List.length_take,List.length_drop];omega
   have hnx:(cutN N l).take (k+1)=(cutN N l).take k++[(l.drop (k*N)).take N]:=by rw[List.take_add_one,hat];rfl
   have hvl:vs.length≤1000000:=by
    have:=hP.pcs.1
    rw[List.length_take] at this
    have:=cut_len N HN.out.1 l
    omega
   have HCL:=Lib.hid (fun X (hX:Below W.heap.size W X)=>pclone_any (chV g off l.length N k) ((l.drop (k*N)).take N) X (hx.below hX) (by omega))
   have HNX:=Lib.hid hnx
   obtain⟨ax,cx,hcv⟩:=ensAt_form hx
   obtain⟨av,cv,rfl⟩:=hP.row.slice
   have HP:=Lib.hid hP
   have hdb:Below W.heap.size W W.drew:=Below.drew (Below.refl _ _)
   have hdc:=(hP.bx.cell:W.drew.cell? _=_)
   have hdf:=(hP.bx.frozen:W.drew.frozen? _=_)
   have HVL:=Lib.hid hvl
   unfold CloneEndBb at HCL
   clear hkl hat hne hx hnx hP hvl hk
   generalize (l.drop (k*N)).take N=p at *
   generalize chV g off l.length N k=cvx at *
   subst hcv
   generalize p.length=pl at *
   have HCL2:=Lib.hid (HCL.out _ hdb)
   clear hdb HCL
   simp only[List.setIfInBounds_toArray,List.set_cons_zero,List.set_cons_succ]
   gi_wp2
   refine round_any (by kernel_rfl) (by kernel_rfl) (by rintro⟨a,w,h⟩;exact h) ?_
   change wpAny _ _ _ _ _ _ _ W.drew
   refine wpAny_take (i:=1) (v:=?_) rfl (by kernel_rfl) (by kernel_rfl) (by kernel_rfl) (fun _ _ _ h=>h) (Or.inl ⟨by rfl,?y1⟩) ?_
   case y1=>intro w;go_simp;try with_reducible rfl
   try simp only[Act.put,zsA,zsB,zsC]
   refine wpAny_ready (rs:=[0,2]) (by kernel_rfl) (by simp) ?_
   refine AllReady.cons rfl (fun K hK=>?_) (AllReady.cons rfl (fun K hK=>?_) AllReady.nil)
   ·go_simp
    refine hK _ _ ?_
    clear hK K
    try simp only[Act.put,zsA,zsB,zsC]
    refine wpAny_ready (rs:=[2]) (by kernel_rfl) (by simp) ?_
    refine AllReady.cons rfl (fun K hK=>?_) AllReady.nil
    go_simp
    refine HCL2.out.mono ?_
    rintro e w3 ⟨v3,rfl,he3,hk3,hb3⟩
    have hbW:Below W.heap.size W w3:=(Below.drew (Below.refl _ _)).trans (hb3:Below W.heap.size W.drew w3)
    obtain⟨a3,c3,rfl⟩:=ensAt_form he3
    have hcc:=(HP.out.bx.cell)
    have hw3:w3.cell? ⟨w.heap.size,0,none⟩=some _:=ecell_later hbW hcc
    have hba3:Below W.heap.size W (w3.alloc (.cells #[.slice a3 p.length c3] 55)):=hbW.alloc hbW.size _
    have hw4:(w3.alloc (.cells #[.slice a3 p.length c3] 55)).cell? ⟨w.heap.size,0,none⟩=some _:=ecell_later hba3 hcc
    obtain⟨v5,w5,hr5,ho5,hg5,hl5⟩:=rsappend_run (w3.alloc (.cells #[.slice a3 p.length c3] 55)) (w.heap.size+1) 159 (.slice av vs.length cv) (.slice a3 p.length c3) vs w3.heap.size 1 (HP.out.row.below hba3) (by simp) rfl HVL.out (by have:=hba3.size;have:=HP.out.bx.lt;omega)
    obtain⟨hst,hkp,hb5⟩:=HP.out.step hbW he3 hk3 ho5 hg5 hl5
    have f5c:=hb5.cell
    have f5f:=hb5.frozen
    obtain⟨a5,c5,hq5⟩:=ho5.slice
    rw[List.length_append,List.length_singleton] at hq5
    subst hq5
    rw[← HNX.out] at hst
    have HN:Hid (CutI w w.heap.size (cutN N l) (k+1) (blkC w.heap.size (.slice a5 (vs.length+1) c5)) (w5.setCell ⟨w.heap.size,0,none⟩ (.slice a5 (vs.length+1) c5))∧KeepsS (blkC w.heap.size (.slice av vs.length cv)) (blkC w.heap.size (.slice a5 (vs.length+1) c5)) W (w5.setCell ⟨w.heap.size,0,none⟩ (.slice a5 (vs.length+1) c5))):=Lib.hid ⟨⟨_,_,hst,fun b=>Iff.rfl⟩,hkp⟩
    clear hst hkp hb5 ho5 hg5 hl5 he3 hk3 hb3 hbW hba3 hcc
    go_wp2_with fail
    try simp only[Act.put,zsA,zsB,zsC]
    refine wpAny_ready (rs:=[3]) (by kernel_rfl) (by simp) ?_
    refine AllReady.cons rfl (fun K hK=>?_) AllReady.nil
    go_simp
    refine hK _ _ ?_
    clear hK K
    try simp only[Act.put,zsA,zsB,zsC]
    refine wpAny_ready (rs:=[4]) (by kernel_rfl) (by simp) ?_
    refine AllReady.cons rfl (fun K hK=>?_) AllReady.nil
    refine Lib.wp_append_run _ _ _ _ _ rfl _ _ rfl rfl _ _ hr5 ?_
    refine hK _ _ ?_
    clear hK K
    try simp only[Act.put,zsA,zsB,zsC]
    refine wpAny_ready (rs:=[5]) (by kernel_rfl) (by simp) ?_
    refine AllReady.cons rfl (fun K hK=>?_) AllReady.nil
    go_simp
    refine hK _ _ ?_
    clear hK K
    try simp only[Act.put,zsA,zsB,zsC]
    refine wpAny_done (by kernel_rfl) ?_ _
    exact⟨_,HN.out⟩
   ·go_simp
    refine HCL2.out.mono ?_
    rintro e w3 ⟨v3,rfl,he3,hk3,hb3⟩
    have hbW:Below W.heap.size W w3:=(Below.drew (Below.refl _ _)).trans (hb3:Below W.heap.size W.drew w3)
    obtain⟨a3,c3,rfl⟩:=ensAt_form he3
    have hcc:=(HP.out.bx.cell)
    have hw3:w3.cell? ⟨w.heap.size,0,none⟩=some _:=ecell_later hbW hcc
    have hba3:Below W.heap.size W (w3.alloc (.cells #[.slice a3 p.length c3] 55)):=hbW.alloc hbW.size _
    have hw4:(w3.alloc (.cells #[.slice a3 p.length c3] 55)).cell? ⟨w.heap.size,0,none⟩=some _:=ecell_later hba3 hcc
    obtain⟨v5,w5,hr5,ho5,hg5,hl5⟩:=rsappend_run (w3.alloc (.cells #[.slice a3 p.length c3] 55)) (w.heap.size+1) 159 (.slice av vs.length cv) (.slice a3 p.length c3) vs w3.heap.size 1 (HP.out.row.below hba3) (by simp) rfl HVL.out (by have:=hba3.size;have:=HP.out.bx.lt;omega)
    obtain⟨hst,hkp,hb5⟩:=HP.out.step hbW he3 hk3 ho5 hg5 hl5
    have f5c:=hb5.cell
    have f5f:=hb5.frozen
    obtain⟨a5,c5,hq5⟩:=ho5.slice
    rw[List.length_append,List.length_singleton] at hq5
    subst hq5
    rw[← HNX.out] at hst
    have HN:Hid (CutI w w.heap.size (cutN N l) (k+1) (blkC w.heap.size (.slice a5 (vs.length+1) c5)) (w5.setCell ⟨w.heap.size,0,none⟩ (.slice a5 (vs.length+1) c5))∧KeepsS (blkC w.heap.size (.slice av vs.length cv)) (blkC w.heap.size (.slice a5 (vs.length+1) c5)) W (w5.setCell ⟨w.heap.size,0,none⟩ (.slice a5 (vs.length+1) c5))):=Lib.hid ⟨⟨_,_,hst,fun b=>Iff.rfl⟩,hkp⟩
    clear hst hkp hb5 ho5 hg5 hl5 he3 hk3 hb3 hbW hba3 hcc
    go_wp2_with fail
    try simp only[Act.put,zsA,zsB,zsC]
    refine wpAny_ready (rs:=[0,3]) (by kernel_rfl) (by simp) ?_
    refine AllReady.cons rfl (fun K hK=>?_) (AllReady.cons rfl (fun K hK=>?_) AllReady.nil)
    ·go_simp
     refine hK _ _ ?_
     clear hK K
     try simp only[Act.put,zsA,zsB,zsC]
     refine wpAny_ready (rs:=[3]) (by kernel_rfl) (by simp) ?_
     refine AllReady.cons rfl (fun K hK=>?_) AllReady.nil
     go_simp
     refine hK _ _ ?_
     clear hK K
     try simp only[Act.put,zsA,zsB,zsC]
     refine wpAny_ready (rs:=[4]) (by kernel_rfl) (by simp) ?_
     refine AllReady.cons rfl (fun K hK=>?_) AllReady.nil
     refine Lib.wp_append_run _ _ _ _ _ rfl _ _ rfl rfl _ _ hr5 ?_
     refine hK _ _ ?_
     clear hK K
     try simp only[Act.put,zsA,zsB,zsC]
     refine wpAny_ready (rs:=[5]) (by kernel_rfl) (by simp) ?_
     refine AllReady.cons rfl (fun K hK=>?_) AllReady.nil
     go_simp
     refine hK _ _ ?_
     clear hK K
     try simp only[Act.put,zsA,zsB,zsC]
     refine wpAny_done (by kernel_rfl) ?_ _
     exact⟨_,HN.out⟩
    ·go_simp
     refine hK _ _ ?_
     clear hK K
     try simp only[Act.put,zsA,zsB,zsC]
     refine wpAny_ready (rs:=[0]) (by kernel_rfl) (by simp) ?_
     refine AllReady.cons rfl (fun K hK=>?_) AllReady.nil
     go_simp
     refine hK _ _ ?_
     clear hK K
     try simp only[Act.put,zsA,zsB,zsC]
     refine wpAny_ready (rs:=[4]) (by kernel_rfl) (by simp) ?_
     refine AllReady.cons rfl (fun K hK=>?_) AllReady.nil
     refine Lib.wp_append_run _ _ _ _ _ rfl _ _ rfl rfl _ _ hr5 ?_
     refine hK _ _ ?_
     clear hK K
     try simp only[Act.put,zsA,zsB,zsC]
     refine wpAny_ready (rs:=[5]) (by kernel_rfl) (by simp) ?_
     refine AllReady.cons rfl (fun K hK=>?_) AllReady.nil
     go_simp
     refine hK _ _ ?_
     clear hK K
     try simp only[Act.put,zsA,zsB,zsC]
     refine wpAny_done (by kernel_rfl) ?_ _
     exact⟨_,HN.out⟩
  case done =>
   rintro D S W hD hSD ⟨vo,vs,hP,hS⟩ _ hDW
   rw[List.take_length] at hP
   obtain⟨av,cv,rfl⟩:=hP.row.slice
   have hvc:=hP.bx.cell
   have HH:=Lib.hid (And.intro hD (And.intro hDW hP))
   clear hP hS hDW hD
   gi_wp2
   obtain⟨h1,h2,h3⟩:=HH.out
   refine⟨by simp,.inl ⟨_,_,rfl,run_takeDeferred h2,?_⟩⟩
   have hR:=h3.grown (grownBy_putObj' _ D (.deferred none)) (fun r e=>by cases e;exact⟨by omega,_,h2,rfl⟩)
   exact⟨_,results_tmp rfl _ _ _,_,rfl,by rw[HZ.out];exact⟨vs,hR.row.valsAt,hR.pcs⟩,hR.bel⟩
end Go.Proofs.YtdnmgpcfgcidbaaGreatDoor
namespace Go.Proofs.YtdnmgpcfgcidbaaGreatDoor
set_option linter.unusedVariables false
set_option linter.unusedSimpArgs false
set_option maxRecDepth 20000
def noB:ByteArray:=ByteArray.mk #[]
def fitN (budget:Int) (ps:List (List En)):Bool:=decide (∀ p ∈ ps,(textI p).length≤65536) && decide (sizD (rootsN 0 ps)≤budget)
def goS (l:List En) (budget:Int):Nat→Nat→Option Nat
 | 0,_=>none
 | f+1,n=>if fitN budget (cutN n l) then some n else goS l budget f (2*n)
structure Sp where
 root:List En
 text:ByteArray
 size:Int
 err:Int
def splitN (l:List En) (budget:Int):Sp :=
 if budget<1∨16257<budget then ⟨[],noB,0,2⟩ else if rowN l≠0 then ⟨[],noB,0,rowN l⟩ else if leavesN l≠[] then ⟨[],noB,0,14⟩ else
 if sizD l≤budget then ⟨l,noB,0,0⟩ else match goS l budget 13 1 with
 | some n=>⟨rootsN 0 (cutN n l),str (textsI (cutN n l)),n,0⟩
 | none=>⟨[],noB,0,15⟩
theorem goS_some (l:List En) (budget:Int):∀ (f n m:Nat),1≤n→goS l budget f n=some m→1≤m∧fitN budget (cutN m l)=true
 | f+1,n,m,hn,h=>by
  rw[goS] at h
  split at h
  ·rename_i hf
   cases h
   exact⟨hn,hf⟩
  ·exact goS_some l budget f (2*n) m (by omega) h
theorem split_ok {l:List En} {budget:Int} (h:(splitN l budget).err=0):1≤budget∧budget≤16257∧rowN l=0∧leavesN l=[] ∧
  ((sizD l≤budget∧splitN l budget=⟨l,noB,0,0⟩)∨(¬ sizD l≤budget∧∃ n,1≤n∧fitN budget (cutN n l)=true∧splitN l budget=⟨rootsN 0 (cutN n l),str (textsI (cutN n l)),n,0⟩)):=by
 unfold splitN at h ⊢
 by_cases h1:budget<1∨16257<budget
 ·rw[if_pos h1] at h;cases h
 rw[if_neg h1] at h ⊢
 by_cases h2:rowN l≠0
 ·rw[if_pos h2] at h;exact absurd h h2
 rw[if_neg h2] at h ⊢
 by_cases h3:leavesN l≠[]
 ·rw[if_pos h3] at h;cases h
 rw[if_neg h3] at h ⊢
 refine⟨by omega,by omega,Classical.not_not.1 h2,Classical.not_not.1 h3,?_⟩
 by_cases h4:sizD l≤budget
 ·rw[if_pos h4];exact .inl ⟨h4,rfl⟩
 rw[if_neg h4] at h ⊢
 right
 refine⟨h4,?_⟩
 cases hg:goS l budget 13 1 with
 | none=>rw[hg] at h;cases h
 | some n =>
  obtain⟨g1,g2⟩:=goS_some l budget 13 1 n (by omega) hg
  exact⟨n,g1,g2,rfl⟩
theorem row_part {a m b:List En} (hm:∀ e ∈ a++m++b,MayN e) (h:rowN (a++m++b)=0):rowN m=0:=by
 have h1:=row_take h (a++m).length
 rw[List.take_left'  rfl] at h1
 have h2:=row_drop (fun e he=>hm e (by simp at he ⊢;rcases he with he|he;exact .inl he;exact .inr (.inl he))) h1 a.length
 rwa[List.drop_left' rfl] at h2
theorem leaves_part {a m b:List En} (h:leavesN (a++m++b)=[]):leavesN m=[]:=by
 unfold leavesN at h ⊢
 rw[List.filter_append,List.filter_append] at h
 simp only[List.append_eq_nil_iff] at h
 exact h.1.2
theorem cut_good {l:List En} (n:Nat) (hn:1≤n) (hm:∀ e ∈ l,MayN e) (hr:rowN l=0) (hl:leavesN l=[]):∀ p ∈ cutN n l,(∀ e ∈ p,MayN e)∧rowN p=0∧leavesN p=[]∧p≠[]:=by
 intro p hp
 obtain⟨P1,P2,he⟩:=List.append_of_mem hp
 have hf:=cut_flat n hn l
 rw[he,List.flatten_append,List.flatten_cons,← List.append_assoc] at hf
 have hm':∀ e ∈ P1.flatten++p++P2.flatten,MayN e:=by rw[hf];exact hm
 exact⟨fun e h=>hm' e (by simp[h]),row_part hm' (by rw[hf];exact hr),leaves_part (a:=P1.flatten) (b:=P2.flatten) (by rw[hf];exact hl),(cut_mem n hn l p hp).1⟩
end Go.Proofs.YtdnmgpcfgcidbaaGreatDoor
namespace Go.Proofs.YtdnmgpcfgcidbaaGreatDoor
set_option linter.unusedVariables false
set_option linter.unusedSimpArgs false
open Go.RowKit
set_option maxRecDepth 20000
theorem roots_snoc (ps:List (List En)) (k:Nat) (p:List En) (h:ps[k]?=some p):rootsN 0 (ps.take (k+1))=rootsN 0 (ps.take k)++[⟨(gS p 0).id,(textsI (ps.take k)).length,(textI p).length,0⟩]:=by
 rw[List.take_add_one,h,Option.toList_some,rootsN_append,Nat.zero_add]
 rfl
theorem texts_snoc (ps:List (List En)) (k:Nat) (p:List En) (h:ps[k]?=some p):textsI (ps.take (k+1))=textsI (ps.take k)++textI p:=by
 rw[List.take_add_one,h,Option.toList_some,textsI_append]
 simp[textsI]
theorem enc_few {p:List En} (hr:rowN p=0) (hl:p.length≤1000):encB p=0∧encT p=str (textI p)∧sizD p=(textI p).length:=by
 have h:=(textI_bd p).2
 have h1:encB p=0:=by unfold encB;rw[if_pos hr,if_neg (by omega)]
 refine⟨h1,?_,?_⟩
 ·unfold encT;rw[if_pos h1]
 ·unfold sizD;rw[if_pos hr]
theorem texts_take (ps:List (List En)) (k:Nat):(textsI (ps.take k)).length≤(textsI ps).length:=by
 have h:=textsI_append (ps.take k) (ps.drop k)
 rw[List.take_append_drop] at h
 rw[h,List.length_append]
 omega
theorem ens_lit14 (w:World) (e:En) (T:TypeId):EnsAt (w.alloc (.cells (eC e) T)) (.slice (some ⟨w.heap.size,0,none⟩) 1 1) [e]:=by
 refine⟨_,1,rfl,by simp,by unfold maxLen;omega,fun k t ht=>?_⟩
 cases k with
 | zero =>
  simp at ht
  subst ht
  obtain⟨h0,h1,h2,h3⟩:=EAt.made w e T
  exact⟨w.heap.size,0,rfl,by simp,by simpa using h0,by simpa using h1,by simpa using h2,by simpa using h3⟩
 | succ k=>simp at ht
set_option maxHeartbeats 4000000 in
theorem rtry_any (v:Value) (l:List En) (budget:Int) (N:Nat) (w:World) (hv:EnsAt w v l) (hm:MaysN l) (hr:rowN l=0) (hll:leavesN l=[]) (hl:l.length≤150) (hN:1≤N∧N≤100000) (hb:-9223372036854775808≤budget∧budget≤9223372036854775807) :
  Calls Tryz.prog 96 #[v,.int .i64 budget,.int .i64 N] w fun e w'=>∃ v',e=.returned (.tuple #[v',.string (str (textsI (cutN N l))),.bool (decide (sizD (rootsN 0 (cutN N l))≤budget))])∧EnsAt w' v' (rootsN 0 (cutN N l))∧Below w.heap.size w w':=by
 have HC:=Lib.hid (rcut_any v l N w hv (by omega) (by omega))
 have HZ:cutZ (N:Int) l=cutN N l:=by unfold cutZ;rw[if_neg (by omega),Int.toNat_natCast]
 rw[HZ] at HC
 have hgood:=cut_good N hN.1 hm hr hll
 have hlen:=fun p hp=>cut_mem N hN.1 l p hp
 have hfl:=cut_flat N hN.1 l
 have hbd:=textsI_bd (cutN N l)
 have hcl:=cut_len N hN.1 l
 have hrow:=roots_rowN N hN.1 hm hr (by omega)
 have hmay:=roots_may (o:=0) (ps:=cutN N l) (by rw[hfl];exact hm) (fun p hp=>(hlen p hp).1) (fun p hp=>by
  have h1:=(textI_bd p).2
  have h2:p.length≤l.length:=by
   obtain⟨P1,P2,he⟩:=List.append_of_mem hp
   rw[← hfl,he]
   simp
   omega
  omega) (by rw[hfl] at hbd;omega)
 have hpl:∀ p ∈ cutN N l,p.length≤150:=fun p hp=>by
  obtain⟨P1,P2,he⟩:=List.append_of_mem hp
  have:p.length≤l.length:=by rw[← hfl,he];simp;omega
  omega
 rw[hfl] at hbd
 generalize cutN N l=ps at *
 have HG:=Lib.hid hgood
 have HL:=Lib.hid hlen
 have HPL:=Lib.hid hpl
 have HMY:=Lib.hid hmay
 have hpn:ps.length≤150:=by omega
 have htx:(textsI ps).length≤7500:=by omega
 have HTT:=Lib.hid (texts_take ps)
 clear hgood hlen hpl hmay hrow hfl hbd hcl hv hm HZ
 go_enter Tryz.func96,Tryz.ntmps96
 go_wp2_with fail
 refine HC.out.mono ?_
 rintro e w1 ⟨pv,rfl,hpc,hb1⟩
 have HPC:=Lib.hid hpc
 have HB1:=Lib.hid hb1
 obtain⟨ap,cp,rfl,hcp,hmp⟩:=hpc.form
 unfold maxLen at hmp
 clear hpc hb1 HC
 go_wp2_with fail
 go_loopw [9,10,12] (fun vo tx i wr=>∃ k:Nat,k≤ps.length∧i=.int .i64 k∧tx=.string (str (textsI (ps.take k)))∧Hid (OwnE wr w1.heap.size 185 vo (rootsN 0 (ps.take k)))∧Hid (Below w1.heap.size w1 wr)) (fun _ _ i _=>ps.length - (intOf i).toNat)
 case atStart=>exact⟨0,Nat.zero_le _,rfl,rfl,Lib.hid (ownE_nil _ _ _),Lib.hid (Below.refl _ _)⟩
 case round =>
  obtain⟨k,hk,rfl,rfl,HO,HB⟩:=hrel
  by_cases hlt:k<ps.length
  ·obtain⟨p,hp⟩:∃ p,ps[k]?=some p:=⟨_,List.getElem?_eq_getElem hlt⟩
   have hmem:=List.mem_of_getElem? hp
   obtain⟨g1,g2,g3,g4⟩:=HG.out p hmem
   obtain⟨e1,e2,e3⟩:=enc_few g2 (by have:=HPL.out p hmem;omega)
   obtain⟨g,off,cap,x,hvx,hg,c0,hx⟩:=HPC.out.at k p hp
   cases hvx
   have d0:=(HB.out.cell (p:=⟨g,off+k,none⟩) hg).trans c0
   have HX:=Lib.hid (hx.below HB.out)
   have HEN:=Lib.hid (fun X (hX:Below wr.heap.size wr X)=>rencD_any x p X ((hx.below HB.out).below hX) g1 (by have:=HPL.out p hmem;omega))
   rw[e1,e2] at HEN
   have HP:=Lib.hid hp
   have hp0:0<p.length:=List.length_pos_iff.2 g4
   obtain⟨gx,ox,cx,rfl,hcx,hgx,hcc⟩:=ens_at HX.out 0 hp0
   obtain⟨x0,_,_,_⟩:=hcc 0 (gS p 0) (gS_get p 0 hp0)
   have hki:(k:Int)<(ps.length:Int):=by omega
   have hpi:(0:Int)<(p.length:Int):=by omega
   have htb:=(textI_bd p).2
   have hpb:=HPL.out p hmem
   have htk:=HTT.out k
   have HID:=Lib.hid (g1 (gS p 0) (gS_mem p 0 hp0))
   clear c0 hx hp hmem g1 g2 g3 e1 e2 e3 hcc
   go_wp2_with fail
   refine(HEN.out _ (Below.refl _ _)).mono ?_
   rintro e w2 ⟨rfl,hb2⟩
   have hB2:=HB.out.trans (hb2.mono HB.out.size)
   have d2:=(hb2.cell (p:=⟨g,off+k,none⟩) (vcell_lt d0)).trans d0
   have x2:=(hb2.cell (p:=⟨gx,ox+0*4,none⟩) (vcell_lt x0)).trans x0
   simp only[Nat.zero_mul,Nat.add_zero] at x2
   have HO2:=Lib.hid (HO.out.below hb2)
   have HB2:=Lib.hid hB2
   obtain⟨T,hT⟩:∃ T,(textsI (ps.take k)).length=T:=⟨_,rfl⟩
   obtain⟨q,hq⟩:∃ q,(textI p).length=q:=⟨_,rfl⟩
   have HRS:=Lib.hid (roots_snoc ps k p HP.out)
   have HTS:=Lib.hid (texts_snoc ps k p HP.out)
   have hs1:(str (textsI (ps.take k))).size≤7500:=by rw[str_size];omega
   have hs2:(str (textI p)).size≤6010:=by rw[str_size];omega
   have hw1:IntKind.u64.wrap ((str (textsI (ps.take k))).size:Int)=(T:Int):=by rw[str_size,hT,IntKind.wrap_u64];omega
   have hw2:IntKind.u32.wrap ((str (textI p)).size:Int)=(q:Int):=by rw[str_size,hq,IntKind.wrap_u32];omega
   have hcat:str (textsI (ps.take k))++str (textI p)=str (textsI (ps.take (k+1))):=by rw[HTS.out,str_append]
   rw[hT,hq] at HRS
   have HCAT:=Lib.hid hcat
   have hba:Below w2.heap.size w2 (w2.alloc (.cells (eC ⟨(gS p 0).id,T,q,0⟩) 185)):=(Below.refl _ _).alloc (Nat.le_refl _) _
   obtain⟨v5,w5,hr5,ho5,hg5⟩:=enappend_run (w2.alloc (.cells (eC ⟨(gS p 0).id,T,q,0⟩) 185)) w1.heap.size 87 185 87 _ Tryz.underlying87 infoRe rfl u9 (.slice (some ⟨w2.heap.size,0,none⟩) 1 1) (rootsN 0 (ps.take k)) [⟨(gS p 0).id,T,q,0⟩] (HO2.out.below hba) (ens_lit14 _ _ _) (by rw[rootsN_len,List.length_take];simp;omega) (Nat.le_trans hB2.size hba.size)
   rw[← HRS.out] at ho5
   have HO5:=Lib.hid ho5
   have HB5:=Lib.hid ((hB2.trans (hba.mono hB2.size)).grown hg5 (Nat.le_trans hB2.size hba.size) (fun j hj=>(HO2.out.lt j hj).1))
   unfold eC at hr5
   dsimp only at hr5
   clear ho5 hg5 hba hcat hT hq hb2 hB2 d0 x0 htb htk
   generalize str (textsI (ps.take k))=st at *
   generalize str (textI p)=sp at *
   go_wp2_with (first|(at_builtin;refine Lib.wpList_append_run _ rfl _ _ _ _ rfl _ _ rfl rfl _ _ hr5 ?_)|fail)
   go_roundw
   case rel=>exact⟨k+1,by omega,by go_num,by rw[HCAT.out],HO5,HB5⟩
   case measure=>simp[intOf];omega
  ·obtain rfl:k=ps.length:=by omega
   rw[List.take_length] at HO ⊢
   have HSZ:=Lib.hid (rsizD_any u9 (rootsN 0 ps) wr HO.out.ensAt HMY.out (by rw[rootsN_len];omega))
   obtain⟨a9,c9,rfl⟩:=ensAt_form HO.out.ensAt
   go_wp2_with fail
   refine HSZ.out.mono ?_
   rintro e w3 ⟨rfl,hb3⟩
   have HE3:=Lib.hid (HO.out.ensAt.below hb3)
   have HB3:=Lib.hid (HB1.out.trans ((HB.out.trans (hb3.mono HB.out.size)).mono HB1.out.size))
   clear hb3
   go_wp2_with fail
   refine bodyPost_ret (results_tmp3 rfl _ _ _) rfl ⟨_,rfl,HE3.out,HB3.out⟩
end Go.Proofs.YtdnmgpcfgcidbaaGreatDoor
