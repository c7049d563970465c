/- aPg aHn aGe aGk aVb aVe. -/
import Derived.Maps.OwnIn
import Derived.Test.YtdnmgpcfgcidbaaGreatDoorWa7
import Derived.Test.YtdnmgpcfgcidbaaGreatDoorWs
namespace Go.Proofs.YtdnmgpcfgcidbaaGreatDoor
set_option linter.unusedVariables false
set_option linter.unusedSimpArgs false
open Go.RowKit Go.Shelf Go.Maps Go.WideMaps
set_option maxRecDepth 20000
attribute [local go_sem] Oper.semAt_some
def prN (l:List Ok):List (Int × Int):=(l.filter fun x=>decide (0<x.1.rn)).map fun x=>(x.1.off,x.1.ln)
theorem prN_snoc (l:List Ok) (x:Ok):prN (l++[x])=prN l++(if 0<x.1.rn then [(x.1.off,x.1.ln)] else []):=by
 unfold prN
 rw [List.filter_append,List.map_append]
 by_cases h:0<x.1.rn <;> simp [h]
theorem prN_tk (l:List En) (hm:MaysN l):prN (tk l)=pairN l:=by
 induction l with
 | nil=>rfl
 | cons e l ih =>
  have h1:=ih (fun x hx=>hm x (List.mem_cons_of_mem _ hx))
  have hme:=hm e (List.mem_cons_self ..)
  by_cases h:ckN e=0
  ·rw [tk_cyes l e ⟨hme,h⟩]
   by_cases h2:0<e.rn
   ·simp only [prN,pairN,List.filter_cons,h,h2,decide_true,Bool.and_self,if_true,List.map_cons] at h1 ⊢
    rw [h1]
   ·simp only [prN,pairN,List.filter_cons,h,h2,decide_true,decide_false,Bool.and_false,Bool.true_and,Bool.false_eq_true,if_false] at h1 ⊢
    exact h1
  ·rw [tk_cno l e h,h1]
   simp [pairN,List.filter_cons,h]
theorem pair_fits (l:List En) (hm:MaysN l):∀ q ∈ pairN l,FitQ q:=fun q hq=>by
 obtain ⟨e,he,_,_,h1,h2⟩:=(mem_pairN l q).1 hq
 have:=hm e he
 unfold MayN at this
 unfold FitQ
 rw [← h1,← h2]
 exact ⟨this.2.1,this.2.2.1⟩
theorem ownsMap_below {H:Type} {P:Program} {k:TypeId} {R:Value→Option (DataW H × List MemPlace)} {w w':World} {b n B:Nat} {D:DataW H} (h:w.ownsMap P k R b n D) (hb:Below B w w') (hB:b<B):w'.ownsMap P k R b n D:=by
 obtain ⟨es,clock,h1,h2⟩:=h
 exact ⟨es,clock,(hb.block b hB).trans h1,h2⟩
theorem keeps_below {B:Nat} {W W':World} (hb:Below W.heap.size W W'):KeepsFrom B W W':=⟨hb.size,fun k o _ hk _=>(hb.block k (Array.getElem?_eq_some_iff.1 hk).1).trans hk⟩
theorem boxed_below {W W':World} {b:Nat} {t:TypeId} {v:Value} (h:Boxed W b t v) (hb:Below W.heap.size W W'):Boxed W' b t v:=(hb.block b h.lt).trans h
def setP (l:List Ok):DataW Unit:=setOf (.lit (.bool true)) ((prN l).map klN)
theorem setP_yes (l:List Ok) (x:Ok) (h:0<x.1.rn):setP (l++[x])=(setP l).put (klN (x.1.off,x.1.ln)) (.lit (.bool true)):=by
 unfold setP
 rw [prN_snoc,if_pos h,List.map_append]
 exact setOf_snoc _ _ _
theorem setP_no (l:List Ok) (x:Ok) (h:¬ 0<x.1.rn):setP (l++[x])=setP l:=by
 unfold setP
 rw [prN_snoc,if_neg h,List.append_nil]
set_option maxRecDepth 100000 in
set_option maxHeartbeats 2000000 in
theorem pcont_any (v:Value) (l:List En) (w:World) (hv:EnsAt w v l) (hm:MaysN l) (hl:l.length≤100000):Calls Tryz.prog 89 #[v] w fun x w'=>x=.returned (.int .i64 (conN l:Nat))∧Below w.heap.size w w':=by
 have HS:=Lib.hid (fun n hn Bs W hW hc=>ptaken_stops n hn Bs w W v l hm hv hW hc)
 have hlen:=Nat.le_trans (tk_len l) hl
 have HSz:Hid (Maps.size (setP (tk l))=conN l):=Lib.hid (by unfold setP;rw [prN_tk l hm];exact size_unl Unit (.lit (.bool true)) (pairN l) (pair_fits l hm))
 have hmm:=@run_makeMap Tryz.prog
 obtain ⟨al,cap,rfl,-,-,-⟩:=hv
 refine (callsIn_wide (n:=3)).1 ?_
 refine callsIn_of_wp_marks Tryz.func89 rfl trivial ?_ rfl
 simp only [Tryz.ntmps89,List.size_toArray,List.length_cons,List.length_nil,Nat.reduceAdd,Nat.reduceSub,Array.replicate_succ,Array.replicate_zero,List.push_toArray,List.append_toArray,List.nil_append,List.cons_append]
 gi_wp2
 refine ⟨trivial,(ptaken_in _ _ _ _ _).mono ?_⟩
 rintro x w1 ⟨rfl,rfl⟩
 gi_wp2
 have hm0:=World.ownsMap_made w Tryz.prog 253 (plainElem (H:=Unit) Tryz.prog 4)
 have hm1:=(hm0.alloc (.cells #[.map (some w.heap.size)] 248)).alloc (.cells #[.slice al l.length cap] 55)
 have bP:=(Boxed.new (w.alloc (.map #[] 0)) 248 (.map (some w.heap.size))).alloc (.cells #[.slice al l.length cap] 55)
 have bA:=Boxed.new ((w.alloc (.map #[] 0)).alloc (.cells #[.map (some w.heap.size)] 248)) 55 (.slice al l.length cap)
 simp only [World.size_alloc] at bA bP
 have hB0:Below w.heap.size w (((w.alloc (.map #[] 0)).alloc (.cells #[.map (some w.heap.size)] 248)).alloc (.cells #[.slice al l.length cap] 55)):=(((Below.refl _ w).alloc (Nat.le_refl _) _).alloc (by simp) _).alloc (by simp;omega) _
 have hsz:(((w.alloc (.map #[] 0)).alloc (.cells #[.map (some w.heap.size)] 248)).alloc (.cells #[.slice al l.length cap] 55)).heap.size=w.heap.size+3:=by simp
 obtain ⟨W0,hW0⟩:∃ W0,((w.alloc (.map #[] 0)).alloc (.cells #[.map (some w.heap.size)] 248)).alloc (.cells #[.slice al l.length cap] 55)=W0:=⟨_,rfl⟩
 rw [hW0] at bP bA hB0 hsz hm1 ⊢
 clear hW0 hm0
 refine wpIn_rangeFunc_ownH rfl (by omega) (gf:=203) (lb:=#[.pointer (some ⟨w.heap.size+1+1,0,none⟩)]) rfl trivial (enters_of Tryz.func203 (by kernel_rfl) rfl)
  (HS.out (3-1) (by omega) (w.heap.size+1+1) W0 hB0 bA.cell) belowK_t (belowK_b (by omega)) (Below.refl _ _) (fun _=>rfl)
  (fun pre W=>(Boxed W (w.heap.size+1) 248 (.map (some w.heap.size))∧W.ownsMap Tryz.prog 253 (plainElem (H:=Unit) Tryz.prog 4) w.heap.size pre.length (setP pre))∧Below w.heap.size w W)
  (fun _ _ _=>False)
  (OwnFrom.and (OwnFrom.and (Own.from (boxed_own _ _ _) _) (fun s A B row hs hg hr=>hs.kept hg (fun e=>by have:=(hr _ e.symm).1;omega))) (ownFrom_below (Nat.le_refl _) (by omega)))
  (fun _ _ _ _ _ hs _ _=>hs)
  ⟨⟨bP,hm1⟩,hB0⟩
  (fun x a' W=>∃ Bx,w.heap.size+1<Bx∧EAt W Bx x.1∧a'={ tmps:=#[.slice al l.length cap,undef,.int .i64 0,.pointer (some ⟨w.heap.size+1,0,none⟩),.pointer (some ⟨Bx,0,none⟩),.map (some w.heap.size),.slice al l.length cap,.func (.func 203) #[] #[.pointer (some ⟨w.heap.size+1+1,0,none⟩)],.agg (eC x.1),undef,undef,undef,undef,undef,undef,undef,undef,undef,undef,undef],defers:=[] })
  (fun x a' _ X Y row hs hg hr=>by obtain ⟨Bx,h1,h2,h3⟩:=hs;exact ⟨Bx,h1,eat_own Bx x.1 () X Y row h2 hg hr,h3⟩)
  ?assign ?body ?done ?stop
 case assign =>
  rintro lp pre x W K ⟨⟨bP1,hm2⟩,hB1⟩ hK
  have HX:=EAt.made W x.1 124
  have HK:=Lib.hid (hK _ (W.alloc (.cells (eC x.1) 124)) ((KeepsOthers.alloc _ _).from _) ((Below.refl _ W).alloc hB1.size _) ⟨⟨bP1.alloc _,hm2.alloc _⟩,hB1.alloc hB1.size _⟩ ⟨W.heap.size,bP1.lt,HX,rfl⟩)
  clear hK HX
  unfold eC at HK ⊢
  gi_wp2
  exact HK.out
 case body =>
  rintro lp pre x a' W hlp ⟨r,hr⟩ ⟨⟨bP1,hm2⟩,hB1⟩ ⟨Bx,hBx,bX,rfl⟩ hlt
  have hmx:=x.2.1
  unfold MayN at hmx
  have HKey:=Lib.hid (key_ok (x.1.off,x.1.ln) ⟨hmx.2.1,hmx.2.2.1⟩)
  have HP:=Lib.hid (fun W=>pptr_any x.1 W)
  have HO:=Lib.hid hm2
  have HBP:=Lib.hid bP1
  have HB1:=Lib.hid hB1
  have HX:=Lib.hid bX
  have hln:pre.length<maxLen:=by unfold maxLen;omega
  clear hr hm2 bP1
  unfold eC at HP ⊢
  obtain ⟨k0,k1,k2,k3⟩:=bX
  by_cases h0:x.1.rn=0
  ·have hd:decide (x.1.rn=0)=true:=by simpa using h0
   rw [hd] at HP
   have HT:=Lib.hid (setP_no pre x (by omega))
   clear h0 hd hmx
   gi_wp2
   refine ⟨trivial,(CallsIn.inRound lp (callsIn_wide.2 (HP.out _))).mono ?_⟩
   rintro y w1 ⟨rfl,hb⟩
   have HK1:=Lib.hid hb
   clear hb k0 k1 k2 k3
   gi_wp2
   refine ⟨keeps_below HK1.out,HK1.out.mono hB1.size,⟨boxed_below HBP.out HK1.out,?_⟩,HB1.out.trans (HK1.out.mono hB1.size)⟩
   rw [HT.out]
   exact ((ownsMap_below HO.out HK1.out (by have:=hB1.size;have:=HBP.out.lt;omega)).mono (by simp))
  ·have hd:decide (x.1.rn=0)=false:=by simpa using h0
   rw [hd] at HP
   have HT:=Lib.hid (setP_yes pre x (by omega))
   clear h0 hd hmx
   gi_wp2
   refine ⟨trivial,(CallsIn.inRound lp (callsIn_wide.2 (HP.out _))).mono ?_⟩
   rintro y w1 ⟨rfl,hb⟩
   obtain ⟨c0,c1,c2,c3⟩:=EAt.later HX.out hb
   have cP:=(boxed_below HBP.out hb).cell
   have hown:=ownsMap_below HO.out hb (by have:=hB1.size;have:=HBP.out.lt;omega)
   have HK1:=Lib.hid hb
   clear hb k0 k1 k2 k3
   gi_wp2_with (gi_at_mapUpdate;refine wpListIn_mapUpdate_own _ rfl _ _ _ 248 rfl 253 4 lawK Tryz.underlying248 (plainElem (H:=Unit) Tryz.prog 4) w.heap.size pre.length _ rfl hown hln _ _ _ rfl rfl HKey.out _ [] (plainElem_bool Tryz.underlying4 true) ?_;intro w2 hown2 hgrow2)
   have hKF:KeepsFrom W0.heap.size w1 w2:=KeepsFrom.of_grownBy hgrow2 (fun j e=>by cases e;omega)
   have hBW:Below w.heap.size W w2:=(HK1.out.mono hB1.size).trans ((Below.refl _ w1).grown hgrow2 (Nat.le_trans hB1.size HK1.out.size) (fun k e=>by cases e;exact Nat.le_refl _))
   refine ⟨(keeps_below HK1.out).trans hKF,hBW,⟨?_,?_⟩,HB1.out.trans hBW⟩
   ·exact (boxed_below HBP.out HK1.out).kept hgrow2 (fun e=>by have:=Option.some.inj e;omega)
   ·rw [HT.out,List.length_append]
    exact hown2
 case done =>
  rintro D zs W hD rfl ⟨⟨bP1,hown⟩,hB1⟩ hK
  have cP:=bP1.cell
  have HB1:=Lib.hid hB1
  clear hB1
  gi_wp2_with (gi_at_len;refine wpListIn_len_own _ rfl _ 248 rfl 253 4 Tryz.underlying248 _ w.heap.size _ _ rfl hown ?_)
  refine ⟨by simp,.inl ⟨_,_,rfl,run_takeDeferred hK,?_⟩⟩
  refine ⟨_,results_tmp rfl _ _ _,?_,HB1.out.trans (belowK_b (w:=w) (Nat.le_refl _) W D _ _ (by omega) hK rfl rfl)⟩
  exact ret_i64 (by rw [HSz.out])
 case stop =>
  rintro D c pre W _ _ h _
  exact h.elim
end Go.Proofs.YtdnmgpcfgcidbaaGreatDoor
namespace Go.Proofs.YtdnmgpcfgcidbaaGreatDoor
set_option linter.unusedVariables false
set_option linter.unusedSimpArgs false
open Go.RowKit Go.Shelf
set_option maxRecDepth 20000
attribute [local go_sem] Oper.semAt_some
def idC (l:List It) (k:Nat):Int:=((l.getD k (0,{ data:=#[] })).1:Int)
def txC (l:List It) (k:Nat):ByteArray:=(l.getD k (0,{ data:=#[] })).2
def VC (B0:Nat) (v:Value) (l:List It) (b:Nat):Prop:=b=B0∨(l≠[]∧∃ a n c,v=.slice (some a) n c∧b=a.block)
theorem KeepsS.its {S S':Nat→Prop} {W W':World} {v:Value} {l:List It} (h:KeepsS S S' W W') (hoff:∀ a n c,l≠[]→v=.slice (some a) n c→¬ S a.block) (hv:ItsAt W v l):ItsAt W' v l:=by
 obtain ⟨a,cap,rfl,h1,h2,hc⟩:=hv
 refine ⟨a,cap,rfl,h1,h2,fun k t ht=>?_⟩
 obtain ⟨g,off,rfl,hg,c0,c1⟩:=hc k t ht
 have hn:=hoff ⟨g,off,none⟩ _ _ (by rintro rfl;simp at ht) rfl
 exact ⟨g,off,rfl,Nat.lt_of_lt_of_le hg h.size,h.cell (p:=⟨g,off+k*2,none⟩) hn c0,h.cell (p:=⟨g,off+k*2+1,none⟩) hn c1⟩
set_option maxRecDepth 100000 in
set_option maxHeartbeats 4000000 in
theorem peach1_seq (v:Value) (l:List It) (B0:Nat) (w:World) (hv:ItsAt w v l) (h1:w.cell? ⟨B0,0,none⟩=some v) :
  SeqD Tryz.prog 132 #[.pointer (some ⟨B0,0,none⟩)] (fun k=>#[.int .u64 (idC l k),.string (txC l k)]) l.length (fun _=>False) (VC B0 v l) (fun _ _=>True) (fun _=>True) w:=by
 intro n lp J Jx S0 W hW hJ hJx hG hS0 hY h0
 have hoff:∀ a n c,l≠[]→v=.slice (some a) n c→¬ S0 a.block:=fun a n c hl hv hs=>(hS0 _ hs).2 (.inr ⟨hl,a,n,c,hv,rfl⟩)
 have hvW:=hv.below hW
 have hn1:¬ S0 B0:=fun h=>(hS0 _ h).2 (.inl rfl)
 have g1:=vcell_later hW h1
 obtain ⟨al,cap,rfl,hcap,hmx,_⟩:=hv
 have hml:l.length≤9223372036854775807:=by unfold maxLen at hmx;omega
 have HJ:=Lib.hid hJ
 have HG:=Lib.hid hG
 have HY:=Lib.hid hY
 have HO:=Lib.hid hoff
 have HVW:=Lib.hid hvW
 have HN:=Lib.hid hn1
 clear hJ hY hS0 hJx hoff hvW h1 hn1 hcap hmx hG
 refine callsIn_of_wp Tryz.func132 rfl trivial ?_ rfl
 simp only [Tryz.ntmps132,List.size_toArray,List.length_cons,List.length_nil,Nat.reduceAdd,Nat.reduceSub,Array.replicate_succ,Array.replicate_zero,List.push_toArray,List.append_toArray,List.nil_append,List.cons_append]
 gi_wp2
 gi_loopw [8] (fun i wr=>∃ k:Nat,k≤l.length∧i=.int .i64 k∧∃ S,Hid (J k S wr)∧Hid (KeepsS S0 S W wr)) (fun i _=>l.length-(intOf i).toNat)
 case atStart=>exact ⟨0,Nat.zero_le _,rfl,S0,Lib.hid h0,Lib.hid (.refl _ _)⟩
 case round =>
  obtain ⟨k,hk,rfl,S,HJs,HK⟩:=hrel
  by_cases hlt:k<l.length
  ·obtain ⟨⟨x,t⟩,he⟩:∃ t,l[k]?=some t:=⟨_,List.getElem?_eq_getElem hlt⟩
   have hi2:(k:Int)<(l.length:Int):=by omega
   have hV:=HK.out.its HO.out HVW.out
   obtain ⟨al',cap',hav,_,_,hc⟩:=hV
   obtain ⟨g,off,rfl,hg,l0,l1⟩:=hc k _ he
   have hid:idC l k=(x:Int):=by unfold idC;rw [List.getD_eq_getElem?_getD,he];rfl
   have htx:txC l k=t:=by unfold txC;rw [List.getD_eq_getElem?_getD,he];rfl
   have HKX:=Lib.hid (KeepsS.alloc S wr (.cells #[.int .u64 x,.string t] 69))
   have HJX:=Lib.hid (HJ.out.alloc (s:=(k,S)) HJs.out (.cells #[.int .u64 x,.string t] 69))
   cases hav
   obtain ⟨fn,tmps,assign,body,hy,hR⟩:=HY.out k S _ HJX.out hlt
   rw [hid,htx] at hy
   have HR:=Lib.hid hR
   clear hR he hc g1 hid htx HJs
   gi_wp2
   refine ⟨noDepth,HR.out.mono ?_⟩
   rintro x W3 (⟨rfl,S3,hJ3,hk3⟩|⟨rfl,hJx3,_⟩)
   ·have HJ3:=Lib.hid hJ3
    have HK3:=Lib.hid ((HK.out.trans HKX.out).trans hk3)
    clear hJ3 hk3 hy HR l0 l1
    gi_wp2
    go_roundw
    case rel=>exact ⟨k+1,by omega,by go_num,S3,HJ3,HK3⟩
    case measure=>simp [intOf];omega
   ·have HJ3:=Lib.hid hJx3
    clear hJx3 hy HR l0 l1
    gi_wp2
    refine bodyPost_ret (results_none rfl _ _ _) rfl ?_
    exact ⟨⟨_,rfl⟩,.inr ⟨k+1,by omega,HJ3.out⟩⟩
  ·obtain rfl:k=l.length:=by omega
   clear g1
   gi_wp2
   go_end0
   exact ⟨⟨_,rfl⟩,.inl ⟨S,HJs.out,trivial⟩⟩
theorem each13_any (s:Value) (l:List It) (w:World) (h:ChS w s l) :
  Calls Tryz.prog 69 #[.agg #[s]] w fun e w'=>e=.returned (.func (.func 132) #[] #[.pointer (some ⟨w.heap.size,0,none⟩)])∧w'.cell? ⟨w.heap.size,0,none⟩=some s∧Below w.heap.size w w':=by
 obtain ⟨a,n,c,rfl⟩:=h.form
 clear h
 go_enter Tryz.func69,Tryz.ntmps69
 go_wp2_with fail
 go_ret
 exact ⟨rfl,by simp [go_sem],by go_grown⟩
end Go.Proofs.YtdnmgpcfgcidbaaGreatDoor
namespace Go.Proofs.YtdnmgpcfgcidbaaGreatDoor
set_option linter.unusedVariables false
set_option linter.unusedSimpArgs false
open Go.RowKit
set_option maxRecDepth 20000
def hasT (s:ByteArray) (t:Kt):Bool:=decide (t.2=s)
def IdxK (s:ByteArray) (l:List Kt) (w:World) (e:Ending) (w':World):Prop:=∃ r:Int,e=.returned (.int .i64 r)∧((r=-1∧∀ t ∈ l,hasT s t=false)∨∃ i:Nat,r=i∧i<l.length∧(∀ t ∈ l.take i,hasT s t=false)∧∃ t,l[i]?=some t∧hasT s t=true)∧Below w.heap.size w w'
set_option maxHeartbeats 1000000 in
theorem idx_any (v:Value) (l:List Kt) (s:ByteArray) (w:World) (hv:KtsAt w v l) (hl:l.length≤100000):Calls Tryz.prog 196 #[v,.func (.func 195) #[.string s] #[]] w (IdxK s l w):=by
 obtain ⟨a,cap,rfl,h1,h2,hc⟩:=hv
 have HC:=Lib.hid hc
 clear hc
 go_enter Tryz.func196,Tryz.ntmps196
 go_wp2_with fail
 go_loopw [8] (fun x wr=>∃ i:Nat,i≤l.length∧x=.int .i64 i∧Hid (∀ t ∈ l.take i,hasT s t=false)∧Below w.heap.size w wr) (fun x _=>l.length-(intOf x).toNat)
 case atStart=>exact ⟨0,Nat.zero_le _,rfl,Lib.hid (fun t ht=>by simp at ht),Below.refl _ _⟩
 case round =>
  obtain ⟨i,hi,rfl,HM,hbw⟩:=hrel
  by_cases hlt:i<l.length
  ·obtain ⟨t,ht⟩:∃ t,l[i]?=some t:=⟨_,List.getElem?_eq_getElem hlt⟩
   obtain ⟨g,off,rfl,hg,l0,l1,l2⟩:=HC.out i t ht
   replace l0:=(hbw.cell (p:=⟨g,off+i*3,none⟩) hg).trans l0
   replace l1:=(hbw.cell (p:=⟨g,off+i*3+1,none⟩) hg).trans l1
   replace l2:=(hbw.cell (p:=⟨g,off+i*3+2,none⟩) hg).trans l2
   have hi2:(i:Int)<(l.length:Int):=by omega
   have HT:=Lib.hid ht
   have HE:=Lib.hid (is_any s t wr)
   have HTK:Hid (l.take (i+1)=l.take i++[t]):=Lib.hid (by rw [List.take_add_one,ht];rfl)
   clear ht
   by_cases hp:hasT s t=true
   ·have HP:=Lib.hid hp
    rw [show decide (t.2=s)=true from hp] at HE
    clear hp
    go_wp2_with fail
    refine HE.out.mono ?_
    rintro e w1 ⟨rfl,hb⟩
    have hbw1:=hbw.trans (hb.mono hbw.size)
    clear hb hbw l0 l1 l2 HE
    go_wp2_with fail
    go_ret
    exact ⟨i,rfl,.inr ⟨i,rfl,hlt,HM.out,_,HT.out,HP.out⟩,hbw1⟩
   ·replace hp:hasT s t=false:=by simpa using hp
    have HP:=Lib.hid hp
    rw [show decide (t.2=s)=false from hp] at HE
    clear hp
    go_wp2_with fail
    refine HE.out.mono ?_
    rintro e w1 ⟨rfl,hb⟩
    have hbw1:=hbw.trans (hb.mono hbw.size)
    clear hb hbw l0 l1 l2 HE
    go_wp2_with fail
    go_roundw
    case rel =>
     refine ⟨i+1,by omega,by go_num,Lib.hid (fun t ht=>?_),hbw1⟩
     rw [HTK.out] at ht
     rcases List.mem_append.1 ht with ht|ht
     ·exact HM.out t ht
     ·rw [List.mem_singleton] at ht;rw [ht];exact HP.out
    case measure=>simp [intOf];omega
  ·obtain rfl:i=l.length:=by omega
   rw [List.take_length] at HM
   go_wp2_with fail
   go_ret
   exact ⟨-1,rfl,.inl ⟨rfl,HM.out⟩,hbw⟩
theorem find_none {s:ByteArray} {l:List ByteArray} (h:∀ t ∈ grp (bkt s) (plc l 0),hasT s t=false):findF s l 0=none:=by
 rw [← find_grp]
 have:=find_no (fun t=>decide (t.2=s)) _ h
 rw [this];rfl
theorem find_some {s:ByteArray} {l:List ByteArray} {i:Nat} {t:Kt} (hi:(grp (bkt s) (plc l 0))[i]?=some t) (hp:hasT s t=true) (hn:∀ x ∈ (grp (bkt s) (plc l 0)).take i,hasT s x=false):findF s l 0=some t.1∧t.2=s:=by
 refine ⟨?_,by simpa [hasT] using hp⟩
 rw [← find_grp]
 have:=find_first (fun t=>decide (t.2=s)) _ i t hi hp hn
 rw [this];rfl
def LookR (l:List ByteArray) (s:ByteArray):Value:=.tuple #[.agg #[.int .u64 (offV (findF s l 0):Nat),.int .u32 (lenV (findF s l 0) s:Nat)],.bool (findF s l 0).isSome]
set_option maxRecDepth 20000 in
set_option maxHeartbeats 1000000 in
theorem look_any (w:World) (pb:Nat) (va vm:Value) (G:Int→Value) (l:List ByteArray) (h:PoolAt w pb va vm G l) (s:ByteArray):Calls Tryz.prog 134 #[.pointer (some ⟨pb,0,none⟩),.int .i64 (bkt s),.string s] w fun e w'=>e=.returned (LookR l s)∧Below w.heap.size w w':=by
 have hr:=bkt_range s
 have hw:(Lit.int .i64 (bkt s)).wf=true:=wf_i64 (by omega) (by omega)
 have hf:=h.good.few
 have hlg:(grp (bkt s) (plc l 0)).length≤100000:=by have:=grp_len (bkt s) (plc l 0);rw [plc_len] at this;omega
 have hb1:Below w.heap.size w (w.alloc (.cells #[.int .u64 0,.int .u32 0] 147)):=(Below.refl _ _).alloc (Nat.le_refl _) _
 have h1:=h.below hb1
 have hk0:=(h.grps (bkt s)).ktsAt
 have hk1:=hk0.below hb1
 have hlook:=h1.look (bkt s) hw
 have HI:=Lib.hid (idx_any _ _ s _ hk1 hlg)
 have HK:=Lib.hid hk0
 have HB:=Lib.hid hb1
 obtain ⟨c0,c1,_,_⟩:=h1.two
 have ht2:=two_new w (.int .u64 0) (.int .u32 0) 147
 clear h h1 hk0 hk1 hb1 hlg hw hr hf
 generalize hG:G (bkt s)=gv at *
 clear hG
 go_enter Tryz.func134,Tryz.ntmps134
 go_wp2_with fail
 generalize w.alloc (.cells #[.int .u64 0,.int .u32 0] 147)=W at *
 refine HI.out.mono ?_
 rintro e w1 ⟨r,rfl,hr,hb⟩
 have hbb:=Below.trans HB.out (hb.mono HB.out.size)
 have h2:=ht2.below hb
 have H2:=Lib.hid h2
 have HBB:=Lib.hid hbb
 obtain ⟨k0,k1,k2,k3⟩:=h2
 have hwn:w.heap.size<w1.heap.size:=vcell_lt k0
 rcases hr with ⟨rfl,hno⟩|⟨i,rfl,hi,hno,t,ht,hp⟩
 ·have HN:=Lib.hid (find_none hno)
  clear hno HK HI hlook hb hbb
  go_wp2_with fail
  refine bodyPost_ret (results_ct rfl _ _ w.heap.size _ _ _ _ rfl rfl (H2.out.set _ _).1 (H2.out.set _ _).2.1 Tryz.underlying147 rfl pct_size) rfl ⟨?_,?_⟩
  ·unfold LookR
   rw [HN.out]
   rfl
  ·exact (HBB.out.setCell (p:=⟨w.heap.size,0,none⟩) (Nat.le_refl _) _).setCell (p:=⟨w.heap.size,1,none⟩) (Nat.le_refl _) _
 ·have HS:=Lib.hid (find_some ht hp hno)
  obtain ⟨al,cap,rfl,hcap,hmx,hc⟩:=HK.out
  obtain ⟨g,off,rfl,hg,d0,d1,d2⟩:=hc i t ht
  have hne:g≠w.heap.size:=by omega
  replace d0:=(hbb.cell (p:=⟨g,off+i*3,none⟩) hg).trans d0
  replace d1:=(hbb.cell (p:=⟨g,off+i*3+1,none⟩) hg).trans d1
  have hi2:(i:Int)<((grp (bkt s) (plc l 0)).length:Int):=by omega
  clear hc hno HK HI hlook hb hbb ht hp d2
  go_wp2_with fail
  refine bodyPost_ret (results_ct rfl _ _ w.heap.size _ _ _ _ rfl rfl (H2.out.set _ _).1 (H2.out.set _ _).2.1 Tryz.underlying147 rfl pct_size) rfl ⟨?_,?_⟩
  ·unfold LookR
   rw [HS.out.1,HS.out.2]
   rfl
  ·exact (HBB.out.setCell (p:=⟨w.heap.size,0,none⟩) (Nat.le_refl _) _).setCell (p:=⟨w.heap.size,1,none⟩) (Nat.le_refl _) _
theorem PoolS.belowG {w w':World} {v:Value} {l:List ByteArray} {S:Nat→Prop} (h:PoolS w v l S) (hb:Below w.heap.size w w'):PoolS w' v l S:=h.keep hb.size (fun b hS=>hb.block b (h.lt b hS))
theorem empty_yes {s:ByteArray} (h:s.size=0):s.toList.isEmpty=true:=by
 have hse:s={ data:=#[] }:=ByteArray.ext (Array.eq_empty_of_size_eq_zero h)
 rw [ByteArray.toList_eq,hse];rfl
theorem empty_no {s:ByteArray} (h:¬ s.size=0):s.toList.isEmpty=false:=by
 rw [ByteArray.toList_eq,List.isEmpty_eq_false_iff]
 intro e
 apply h
 show s.data.size=0
 rw [← Array.length_toList,e];rfl
theorem add_bad {l:List ByteArray} {s:ByteArray} {e:Nat} (h:eV l s=e) (h0:e≠0):isNew l s=false∧newL l s=l∧offA l s=0∧lenA l s=0:=by
 have h1:isNew l s=false:=by unfold isNew;rw [h,decide_eq_false h0];rfl
 refine ⟨h1,by unfold newL;rw [h1];rfl,?_,?_⟩
 ·unfold offA;rw [h1,h,if_neg h0];rfl
 ·unfold lenA;rw [h,if_neg h0]
theorem add_old {l:List ByteArray} {s:ByteArray} {k:Nat} (h:eV l s=0) (hf:findF s l 0=some k):isNew l s=false∧newL l s=l∧offA l s=k∧lenA l s=s.size:=by
 have h1:isNew l s=false:=by unfold isNew;rw [hf];simp
 refine ⟨h1,by unfold newL;rw [h1];rfl,?_,?_⟩
 ·unfold offA;rw [h1,h,hf];rfl
 ·unfold lenA;rw [h,if_pos rfl]
theorem add_new {l:List ByteArray} {s:ByteArray} (h:eV l s=0) (hf:findF s l 0=none):isNew l s=true∧newL l s=l++[s]∧offA l s=totF l∧lenA l s=s.size:=by
 have h1:isNew l s=true:=by unfold isNew;rw [h,hf];rfl
 refine ⟨h1,by unfold newL;rw [h1];rfl,?_,?_⟩
 ·unfold offA;rw [h1];rfl
 ·unfold lenA;rw [h,if_pos rfl]
def AddR (l:List ByteArray) (s:ByteArray):Value:=.tuple #[.agg #[.int .u64 (offA l s:Nat),.int .u32 (lenA l s:Nat)],.bool (isNew l s),.int .i64 (eV l s:Nat)]
theorem addR_bad {l:List ByteArray} {s:ByteArray} {e:Nat} (h:eV l s=e) (h0:e≠0):AddR l s=.tuple #[.agg #[.int .u64 0,.int .u32 0],.bool false,.int .i64 e]:=by
 obtain ⟨h1,_,h3,h4⟩:=add_bad h h0
 unfold AddR;rw [h1,h3,h4,h];rfl
set_option maxRecDepth 20000 in
set_option maxHeartbeats 2000000 in
theorem addR_any (v:Value) (l:List ByteArray) (S:Nat→Prop) (s:ByteArray) (w:World) (h:PoolS w v l S) (hs:s.size≤maxLen) :
  Calls Tryz.prog 70 #[v,.string s] w fun e w'=>e=.returned (AddR l s)∧∃ S',PoolS w' v (newL l s) S'∧Kept S S' w w':=by
 have hgood:=h.good
 have hb0:=below_one w (.cells #[.int .u64 0,.int .u32 0] 147)
 have ht2:=two_new w (.int .u64 0) (.int .u32 0) 147
 have HS:=Lib.hid h
 have HT:=Lib.hid (And.intro ht2 hb0)
 have hsm:=hs
 unfold maxLen at hsm
 by_cases h0:s.size=0
 ·have he:eV l s=2:=by unfold eV;rw [if_pos h0]
  have hd:=empty_yes h0
  have HR:=Lib.hid (addR_bad he (by omega))
  have HN:=Lib.hid (add_bad he (by omega)).2.1
  obtain ⟨pb,va,vm,G,rfl,hP,hSS⟩:=h
  clear hP hSS he ht2 hb0 hgood
  go_enter Tryz.func70,Tryz.ntmps70
  go_wp2_with fail
  generalize w.alloc (.cells #[.int .u64 0,.int .u32 0] 147)=W at *
  refine bodyPost_ret (results_ct3 rfl _ _ w.heap.size _ _ _ _ _ rfl rfl rfl HT.out.1.1 HT.out.1.2.1 Tryz.underlying147 rfl pct_size) rfl ⟨by rw [HR.out];rfl,S,?_,?_⟩
  ·rw [HN.out]
   exact HS.out.belowG HT.out.2
  ·exact Kept.below _ HT.out.2
 ·have hd:=empty_no h0
  by_cases h6:65536<s.size
  ·have he:eV l s=5:=by unfold eV;rw [if_neg h0,if_pos h6]
   have h6':(65536:Int)<(s.size:Int):=by omega
   have HR:=Lib.hid (addR_bad he (by omega))
   have HN:=Lib.hid (add_bad he (by omega)).2.1
   obtain ⟨pb,va,vm,G,rfl,hP,hSS⟩:=h
   clear hP hSS he ht2 hb0 hgood
   go_enter Tryz.func70,Tryz.ntmps70
   go_wp2_with fail
   generalize w.alloc (.cells #[.int .u64 0,.int .u32 0] 147)=W at *
   refine bodyPost_ret (results_ct3 rfl _ _ w.heap.size _ _ _ _ _ rfl rfl rfl HT.out.1.1 HT.out.1.2.1 Tryz.underlying147 rfl pct_size) rfl ⟨by rw [HR.out];rfl,S,?_,?_⟩
   ·rw [HN.out]
    exact HS.out.belowG HT.out.2
   ·exact Kept.below _ HT.out.2
  ·have h6':¬ (65536:Int)<(s.size:Int):=by omega
   have heq:eV l s=if (findF s l 0).isSome then 0 else if 2048≤l.length then 7 else 0:=by unfold eV;rw [if_neg h0,if_neg h6]
   obtain ⟨pb,va,vm,G,rfl,hP,hSS⟩:=h
   obtain ⟨al,cap,hva⟩:∃ al cap,va=.slice al l.length cap:=by
    obtain ⟨al,cap,hva,_⟩:=hP.all.ktsAt
    rw [plc_len] at hva
    exact ⟨al,cap,hva⟩
   subst hva
   have HB:=Lib.hid (fun W=>bucketOf_any s hs W)
   have HL:=Lib.hid (fun X (hX:Below (w.alloc (.cells #[.int .u64 0,.int .u32 0] 147)).heap.size (w.alloc (.cells #[.int .u64 0,.int .u32 0] 147)) X)=>look_any X pb _ vm G l ((hP.below hb0).below hX) s)
   have HP:=Lib.hid (And.intro hP hSS)
   have hlen:=hgood.few
   clear hP hSS ht2 hb0
   cases hfd:findF s l 0 with
   | some k =>
    rw [hfd] at heq
    have he:eV l s=0:=heq
    have HA:=Lib.hid (add_old he hfd)
    have HE:=Lib.hid he
    have HLR:Hid (LookR l s=.tuple #[.agg #[.int .u64 (k:Nat),.int .u32 s.size],.bool true]):=Lib.hid (by unfold LookR;rw [hfd];rfl)
    rw [HLR.out] at HL
    clear heq he hfd
    go_enter Tryz.func70,Tryz.ntmps70
    go_wp2_with fail
    generalize w.alloc (.cells #[.int .u64 0,.int .u32 0] 147)=W at *
    refine (HB.out _).mono ?_
    rintro e w1 ⟨rfl,hb1⟩
    have HB1:=Lib.hid hb1
    clear hb1
    go_wp2_with fail
    refine (HL.out _ HB1.out).mono ?_
    rintro e w2 ⟨rfl,hb2⟩
    have hbb:=HB1.out.trans (hb2.mono HB1.out.size)
    have h2:=HT.out.1.below hbb
    have H2:=Lib.hid h2
    have HBB:=Lib.hid (HT.out.2.trans (hbb.mono HT.out.2.size))
    obtain ⟨k0,k1,k2,k3⟩:=h2
    have hwl:w.heap.size<w2.heap.size:=vcell_lt k0
    have hwn:w.heap.size≠w2.heap.size:=by omega
    clear hb2 hbb
    go_wp2_with fail
    refine bodyPost_ret (results_ct3 rfl _ _ w.heap.size _ _ _ _ _ rfl rfl rfl ((H2.out.set _ _).alloc _).1 ((H2.out.set _ _).alloc _).2.1 Tryz.underlying147 rfl pct_size) rfl ⟨?_,S,?_,?_⟩
    ·unfold AddR
     rw [HA.out.1,HA.out.2.2.1,HA.out.2.2.2,HE.out];rfl
    ·rw [HA.out.2.1]
     exact HS.out.belowG (((HBB.out.setCell (p:=⟨w.heap.size,0,none⟩) (Nat.le_refl _) _).setCell (p:=⟨w.heap.size,1,none⟩) (Nat.le_refl _) _).alloc (by simpa using HBB.out.size) _)
    ·exact Kept.below _ (((HBB.out.setCell (p:=⟨w.heap.size,0,none⟩) (Nat.le_refl _) _).setCell (p:=⟨w.heap.size,1,none⟩) (Nat.le_refl _) _).alloc (by simpa using HBB.out.size) _)
   | none =>
    rw [hfd] at heq
    have HLR:Hid (LookR l s=.tuple #[.agg #[.int .u64 0,.int .u32 0],.bool false]):=Lib.hid (by unfold LookR;rw [hfd];rfl)
    rw [HLR.out] at HL
    by_cases hfull:2048≤l.length
    ·have he:eV l s=7:=by rw [heq,if_pos hfull];rfl
     have HR:=Lib.hid (addR_bad he (by omega))
     have HN:=Lib.hid (add_bad he (by omega)).2.1
     have hf':(2048:Int)≤(l.length:Int):=by omega
     clear heq he hfd
     go_enter Tryz.func70,Tryz.ntmps70
     go_wp2_with fail
     generalize w.alloc (.cells #[.int .u64 0,.int .u32 0] 147)=W at *
     refine (HB.out _).mono ?_
     rintro e w1 ⟨rfl,hb1⟩
     have HB1:=Lib.hid hb1
     clear hb1
     go_wp2_with fail
     refine (HL.out _ HB1.out).mono ?_
     rintro e w2 ⟨rfl,hb2⟩
     have hbb:=HB1.out.trans (hb2.mono HB1.out.size)
     have H2:=Lib.hid (HT.out.1.below hbb)
     have hbw:=HT.out.2.trans (hbb.mono HT.out.2.size)
     have HBB:=Lib.hid hbw
     obtain ⟨c0,c1,c2,c3⟩:=(HP.out.1.below hbw).two
     obtain ⟨k0,k1,k2,k3⟩:=H2.out
     have hwl:w.heap.size<w2.heap.size:=vcell_lt k0
     have hwn:w.heap.size≠w2.heap.size:=by omega
     have hpn:pb<w.heap.size:=HP.out.1.two.lt
     have hpn2:pb≠w2.heap.size:=by omega
     have dA:∀ O,(w2.alloc O).cell? ⟨pb,0,none⟩=some (.slice al l.length cap):=fun O=>vcell_later (below_one w2 O) c0
     clear hb2 hbb hbw
     go_wp2_with fail
     refine bodyPost_ret (results_ct3 rfl _ _ w.heap.size _ _ _ _ _ rfl rfl rfl ((H2.out.set _ _).alloc _).1 ((H2.out.set _ _).alloc _).2.1 Tryz.underlying147 rfl pct_size) rfl ⟨?_,S,?_,?_⟩
     ·rw [HR.out];rfl
     ·rw [HN.out]
      exact HS.out.belowG (((HBB.out.setCell (p:=⟨w.heap.size,0,none⟩) (Nat.le_refl _) _).setCell (p:=⟨w.heap.size,1,none⟩) (Nat.le_refl _) _).alloc (by simpa using HBB.out.size) _)
     ·exact Kept.below _ (((HBB.out.setCell (p:=⟨w.heap.size,0,none⟩) (Nat.le_refl _) _).setCell (p:=⟨w.heap.size,1,none⟩) (Nat.le_refl _) _).alloc (by simpa using HBB.out.size) _)
    ·have he:eV l s=0:=by rw [heq,if_neg hfull];rfl
     have HA:=Lib.hid (add_new he hfd)
     have HE:=Lib.hid he
     have hf':¬ (2048:Int)≤(l.length:Int):=by omega
     have hnl:=(findF_none s l 0).1 hfd
     have hg2:GoodP (l++[s]):=by
      refine ⟨fun t ht=>?_,fun t ht=>?_,?_,by simp;omega⟩
      ·rcases List.mem_append.1 ht with h|h
       ·exact hgood.pos t h
       ·rw [List.mem_singleton] at h;rw [h];omega
      ·rcases List.mem_append.1 ht with h|h
       ·exact hgood.short t h
       ·rw [List.mem_singleton] at h;rw [h];omega
      ·rw [List.nodup_append]
       exact ⟨hgood.once,by simp,fun a ha b hb=>by rw [List.mem_singleton] at hb;rw [hb];intro e;exact hnl (e ▸ ha)⟩
     have HG:=Lib.hid hg2
     clear heq he hfd hnl hg2
     go_enter Tryz.func70,Tryz.ntmps70
     go_wp2_with fail
     generalize w.alloc (.cells #[.int .u64 0,.int .u32 0] 147)=W at *
     refine (HB.out _).mono ?_
     rintro e w1 ⟨rfl,hb1⟩
     have HB1:=Lib.hid hb1
     clear hb1
     go_wp2_with fail
     refine (HL.out _ HB1.out).mono ?_
     rintro e w2 ⟨rfl,hb2⟩
     have hbb:=HB1.out.trans (hb2.mono HB1.out.size)
     have h2:=HT.out.1.below hbb
     have hbw:=HT.out.2.trans (hbb.mono HT.out.2.size)
     have hp2:=HP.out.1.below hbw
     obtain ⟨c0,c1,c2,c3⟩:=hp2.two
     have hwl:w.heap.size<w2.heap.size:=h2.lt
     have hpn:pb<w.heap.size:=HP.out.1.two.lt
     have hpn2:pb≠w2.heap.size:=by omega
     have dA:∀ O,(w2.alloc O).cell? ⟨pb,0,none⟩=some (.slice al l.length cap):=fun O=>vcell_later (below_one w2 O) c0
     have HX:=Lib.hid (fun O=>And.intro (hp2.below (below_one w2 O)) (And.intro (h2.alloc O) (hbw.alloc hbw.size O)))
     have HLA:=Lib.hid (fun O=>lay_any (w2.alloc O) pb _ vm G l (hp2.below (below_one w2 O)) s HG.out)
     clear hb2 hbb hbw h2 hp2
     go_wp2_with fail
     refine (HLA.out _).mono ?_
     rintro e w3 ⟨rfl,va',vm',G',hp3,hk3⟩
     obtain ⟨hx1,hx2,hx3⟩:=HX.out (.cells #[.int .u64 0,.int .u32 0] 147)
     have hnS:¬ blkS pb (.slice al l.length cap) vm G w.heap.size:=fun hb=>by have:=HP.out.1.lt _ hb;omega
     have h3:=hx2.keep (hk3.same _ hx2.lt hnS)
     have hnS3:¬ blkS pb va' vm' G' w.heap.size:=fun hb=>by
      rcases hk3.own _ hb with h|h
      ·exact hnS h
      ·have:(w2.alloc (.cells #[.int .u64 0,.int .u32 0] 147)).heap.size=w2.heap.size+1:=by simp
       omega
     have H3:=Lib.hid h3
     have HP3:=Lib.hid (hp3.set2 w.heap.size hnS3)
     have HK3:=Lib.hid (((Kept.below (blkS pb (.slice al l.length cap) vm G) hx3).trans hk3).set2 w.heap.size (Nat.le_refl _))
     obtain ⟨k0,k1,k2,k3⟩:=h3
     clear hp3 hk3 hx1 hx2 hx3 HX HLA
     go_wp2_with fail
     refine bodyPost_ret (results_ct3 rfl _ _ w.heap.size _ _ _ _ _ rfl rfl rfl (H3.out.set _ _).1 (H3.out.set _ _).2.1 Tryz.underlying147 rfl pct_size) rfl ⟨?_,blkS pb va' vm' G',?_,?_⟩
     ·unfold AddR
      rw [HA.out.1,HA.out.2.2.1,HA.out.2.2.2,HE.out];rfl
     ·rw [HA.out.2.1]
      exact ⟨pb,va',vm',G',rfl,HP3.out _ _,fun b=>Iff.rfl⟩
     ·have hk:=HK3.out (.int .u64 (totF l:Nat)) (.int .u32 s.size)
      exact ⟨hk.os,hk.tape,hk.output,hk.size,fun b hb hn=>hk.same b hb (fun h=>hn ((HP.out.2 b).2 h)),fun b hb=>by
       rcases hk.own b hb with h|h
       ·exact .inl ((HP.out.2 b).2 h)
       ·exact .inr h⟩
set_option maxHeartbeats 4000000 in
theorem ahead_any (v:Value) (l:List En) (e:En) (w:World) (hv:EnsAt w v l) (hm:MaysN l) (he:MayN e):Calls Tryz.prog 71 #[v,.agg (eC e),.func (.func 72) #[] #[]] w fun x w'=>x=.returned (.bool (lastOne l e))∧Below w.heap.size w w':=by
 have hbw:Below w.heap.size w (w.alloc (.cells (eC e) 124)):=(Below.refl _ _).alloc (Nat.le_refl _) _
 have hea:=EAt.made w e 124
 have hv2:=hv.below hbw
 rcases List.eq_nil_or_concat l with rfl|⟨r,a,rfl⟩
 ·obtain ⟨a0,c0,rfl,-⟩:=hv
  have HR:Hid (lastOne [] e=false):=Lib.hid rfl
  have hz:IntKind.i64.wrap ((0:Int)-1)=-1:=by rw [IntKind.wrap_i64];omega
  rw [List.length_nil]
  unfold eC at hbw hea ⊢
  obtain ⟨W,hW⟩:∃ W,(w.alloc (.cells #[.int .u64 e.id,.int .u64 e.off,.int .u32 e.ln,.int .u32 e.rn] 124))=W:=⟨_,rfl⟩
  rw [hW] at hea hbw
  have HK:Hid (∀ w',Below W.heap.size W w'→(w'.cell? ⟨w.heap.size,0,none⟩=some (.int .u64 e.id)∧w'.cell? ⟨w.heap.size,1,none⟩=some (.int .u64 e.off)∧w'.cell? ⟨w.heap.size,2,none⟩=some (.int .u32 e.ln)∧w'.cell? ⟨w.heap.size,3,none⟩=some (.int .u32 e.rn))∧Below W.heap.size W w'):=Lib.hid (fun w' h=>⟨hea.later h,h⟩)
  have HB:=Lib.hid hbw
  clear hea hbw hv2 he hm
  go_enter Tryz.func71,Tryz.ntmps71
  go_wp2_with fail
  refine wp_region_held_drew (S:=fun w'=>(w'.cell? ⟨w.heap.size,0,none⟩=some (.int .u64 e.id)∧w'.cell? ⟨w.heap.size,1,none⟩=some (.int .u64 e.off)∧w'.cell? ⟨w.heap.size,2,none⟩=some (.int .u32 e.ln)∧w'.cell? ⟨w.heap.size,3,none⟩=some (.int .u32 e.rn))∧Below W.heap.size W w') (by kernel_rfl) (HK.out _ (Below.drew (Below.refl _ _))) (fun hH0=>?_)
  refine takeH (i:=0) (d:=11) (v:=?_) rfl rfl (Or.inl ⟨by rfl,?y0⟩) hH0 ?_
  case y0=>intro w hSw;go_simp;try with_reducible rfl
  try simp only [Act.put,zsA,zsB,zsC]
  refine takeH (i:=1) (d:=12) (v:=?_) rfl rfl (Or.inl ⟨by rfl,?y1⟩) hH0 ?_
  case y1=>intro w hSw;go_simp;try with_reducible rfl
  try simp only [Act.put,zsA,zsB,zsC]
  refine takeH (i:=2) (d:=13) (v:=?_) rfl rfl (Or.inl ⟨by rfl,?y2⟩) hH0 ?_
  case y2=>intro w hSw;go_simp;try with_reducible rfl
  try simp only [Act.put,zsA,zsB,zsC]
  refine takeH (i:=3) (d:=14) (v:=undef) rfl rfl (Or.inr ⟨by rfl,rfl⟩) hH0 ?_
  try simp only [Act.put,zsA,zsB,zsC]
  refine takeH (i:=4) (d:=15) (v:=undef) rfl rfl (Or.inr ⟨by rfl,rfl⟩) hH0 ?_
  try simp only [Act.put,zsA,zsB,zsC]
  refine takeH (i:=5) (d:=16) (v:=undef) rfl rfl (Or.inr ⟨by rfl,rfl⟩) hH0 ?_
  try simp only [Act.put,zsA,zsB,zsC]
  refine takeH (i:=6) (d:=17) (v:=undef) rfl rfl (Or.inr ⟨by rfl,rfl⟩) hH0 ?_
  try simp only [Act.put,zsA,zsB,zsC]
  refine takeH (i:=7) (d:=18) (v:=undef) rfl rfl (Or.inr ⟨by rfl,rfl⟩) hH0 ?_
  try simp only [Act.put,zsA,zsB,zsC]
  refine takeH (i:=8) (d:=19) (v:=undef) rfl rfl (Or.inr ⟨by rfl,rfl⟩) hH0 ?_
  try simp only [Act.put,zsA,zsB,zsC]
  refine takeH (i:=9) (d:=20) (v:=undef) rfl rfl (Or.inr ⟨by rfl,rfl⟩) hH0 ?_
  try simp only [Act.put,zsA,zsB,zsC]
  refine takeH (i:=10) (d:=21) (v:=?_) rfl rfl (Or.inl ⟨by rfl,?y10⟩) hH0 ?_
  case y10=>intro w hSw;go_simp;try with_reducible rfl
  try simp only [Act.put,zsA,zsB,zsC]
  refine takeH (i:=11) (d:=6) (v:=?_) rfl rfl (Or.inl ⟨by rfl,?y11⟩) hH0 ?_
  case y11=>intro w hSw;go_simp;try with_reducible rfl
  try simp only [Act.put,zsA,zsB,zsC]
  refine wpAnyH_done (by kernel_rfl) ?_ _
  go_wp2_with fail
  go_ret
  exact ⟨by rw [HR.out];rfl,HB.out.trans (hH0.2.mono HB.out.size)⟩
 ·rw [List.concat_eq_append] at *
  have HR:=Lib.hid (lastOne_concat r a e)
  obtain ⟨g,off,cap,rfl,hle,hg,hc⟩:=ens_at hv r.length (by simp)
  have hmx:r.length+1≤maxLen:=by
   obtain ⟨a',c',e',h1,h2,_⟩:=hv
   rw [List.length_append,List.length_singleton] at h1
   omega
  have hlt:(r++[a]).length=r.length+1:=by simp
  rw [hlt] at *
  have hca:=hc r.length a (by simp)
  have hG:=fun W=>goes_any e a W he (hm a (by simp))
  have HCA:=Lib.hid (fun X (hX:Below w.heap.size w X)=>cells4 hX hca)
  unfold maxLen at hmx
  have hi1:IntKind.i64.wrap ((r.length:Int)+1-1)=(r.length:Int):=by rw [IntKind.wrap_i64];omega
  have hi2:IntKind.i64.wrap (r.length:Int)=(r.length:Int):=by rw [IntKind.wrap_i64];omega
  have hi3:(r.length:Int)<(r.length:Int)+1:=by omega
  have hi4:(0:Int)≤(r.length:Int):=by omega
  unfold eC at hbw hea hG ⊢
  have HG:=Lib.hid hG
  obtain ⟨W,hW⟩:∃ W,(w.alloc (.cells #[.int .u64 e.id,.int .u64 e.off,.int .u32 e.ln,.int .u32 e.rn] 124))=W:=⟨_,rfl⟩
  rw [hW] at hea hbw
  have HK:Hid (∀ w',Below W.heap.size W w'→((w'.cell? ⟨w.heap.size,0,none⟩=some (.int .u64 e.id)∧w'.cell? ⟨w.heap.size,1,none⟩=some (.int .u64 e.off)∧w'.cell? ⟨w.heap.size,2,none⟩=some (.int .u32 e.ln)∧w'.cell? ⟨w.heap.size,3,none⟩=some (.int .u32 e.rn))∧(w'.cell? ⟨g,off+r.length*4,none⟩=some (.int .u64 a.id)∧w'.cell? ⟨g,off+r.length*4+1,none⟩=some (.int .u64 a.off)∧w'.cell? ⟨g,off+r.length*4+2,none⟩=some (.int .u32 a.ln)∧w'.cell? ⟨g,off+r.length*4+3,none⟩=some (.int .u32 a.rn)))∧Below W.heap.size W w'):=Lib.hid (fun w' h=>⟨⟨hea.later h,HCA.out w' (hbw.trans (h.mono hbw.size))⟩,h⟩)
  have HB:=Lib.hid hbw
  generalize oneE a e=R at *
  clear hea hbw hv2 hv he hm hG hc hca hlt
  generalize r.length=rl at *
  go_enter Tryz.func71,Tryz.ntmps71
  go_wp2_with fail
  refine wp_region_held_drew (S:=fun w'=>((w'.cell? ⟨w.heap.size,0,none⟩=some (.int .u64 e.id)∧w'.cell? ⟨w.heap.size,1,none⟩=some (.int .u64 e.off)∧w'.cell? ⟨w.heap.size,2,none⟩=some (.int .u32 e.ln)∧w'.cell? ⟨w.heap.size,3,none⟩=some (.int .u32 e.rn))∧(w'.cell? ⟨g,off+rl*4,none⟩=some (.int .u64 a.id)∧w'.cell? ⟨g,off+rl*4+1,none⟩=some (.int .u64 a.off)∧w'.cell? ⟨g,off+rl*4+2,none⟩=some (.int .u32 a.ln)∧w'.cell? ⟨g,off+rl*4+3,none⟩=some (.int .u32 a.rn)))∧Below W.heap.size W w') (by kernel_rfl) (HK.out _ (Below.drew (Below.refl _ _))) (fun hH0=>?_)
  refine takeH (i:=0) (d:=11) (v:=?_) rfl rfl (Or.inl ⟨by rfl,?y0⟩) hH0 ?_
  case y0=>intro w hSw;go_simp;try with_reducible rfl
  try simp only [Act.put,zsA,zsB,zsC]
  refine takeH (i:=1) (d:=12) (v:=?_) rfl rfl (Or.inl ⟨by rfl,?y1⟩) hH0 ?_
  case y1=>intro w hSw;go_simp;try with_reducible rfl
  try simp only [Act.put,zsA,zsB,zsC]
  refine takeH (i:=2) (d:=13) (v:=?_) rfl rfl (Or.inl ⟨by rfl,?y2⟩) hH0 ?_
  case y2=>intro w hSw;go_simp;try with_reducible rfl
  try simp only [Act.put,zsA,zsB,zsC]
  refine takeH (i:=3) (d:=14) (v:=?_) rfl rfl (Or.inl ⟨by rfl,?y3⟩) hH0 ?_
  case y3=>intro w hSw;go_simp;try with_reducible rfl
  try simp only [Act.put,zsA,zsB,zsC]
  refine takeH (i:=4) (d:=15) (v:=?_) rfl rfl (Or.inl ⟨by rfl,?y4⟩) hH0 ?_
  case y4=>intro w hSw;go_simp;try with_reducible rfl
  try simp only [Act.put,zsA,zsB,zsC]
  refine takeH (i:=5) (d:=16) (v:=?_) rfl rfl (Or.inl ⟨by rfl,?y5⟩) hH0 ?_
  case y5=>intro w hSw;go_simp;try with_reducible rfl
  try simp only [Act.put,zsA,zsB,zsC]
  refine takeH (i:=6) (d:=17) (v:=?_) rfl rfl (Or.inl ⟨by rfl,?y6⟩) hH0 ?_
  case y6=>intro w hSw;go_simp;try with_reducible rfl
  try simp only [Act.put,zsA,zsB,zsC]
  refine takeH (i:=7) (d:=18) (v:=?_) rfl rfl (Or.inl ⟨by rfl,?y7⟩) hH0 ?_
  case y7=>intro w hSw;go_simp;try with_reducible rfl
  try simp only [Act.put,zsA,zsB,zsC]
  refine takeH (i:=8) (d:=19) (v:=?_) rfl rfl (Or.inl ⟨by rfl,?y8⟩) hH0 ?_
  case y8=>intro w hSw;go_simp;try with_reducible rfl
  try simp only [Act.put,zsA,zsB,zsC]
  refine wpAnyH_ready (rs:=[9]) (by kernel_rfl) (by simp) ?_
  refine AllReadyH.cons rfl (fun K hK=>?_) AllReadyH.nil
  go_simp
  refine (HG.out _).mono ?_
  rintro e w' ⟨rfl,hb⟩
  go_wp2_with fail
  refine hK.out _ _ (HK.out _ (hH0.2.trans (hb.mono hH0.2.size))) (fun hH1=>?_)
  clear hK K hb hH0
  try simp only [Act.put,zsA,zsB,zsC]
  refine takeH (i:=10) (d:=21) (v:=?_) rfl rfl (Or.inl ⟨by rfl,?y10⟩) hH1 ?_
  case y10=>intro w hSw;go_simp;try with_reducible rfl
  try simp only [Act.put,zsA,zsB,zsC]
  refine takeH (i:=11) (d:=6) (v:=?_) rfl rfl (Or.inl ⟨by rfl,?y11⟩) hH1 ?_
  case y11=>intro w hSw;go_simp;try with_reducible rfl
  try simp only [Act.put,zsA,zsB,zsC]
  refine wpAnyH_done (by kernel_rfl) ?_ _
  go_wp2_with fail
  go_ret
  exact ⟨by rw [HR.out];rfl,HB.out.trans (hH1.2.mono HB.out.size)⟩
end Go.Proofs.YtdnmgpcfgcidbaaGreatDoor
namespace Go.Proofs.YtdnmgpcfgcidbaaGreatDoor
set_option linter.unusedVariables false
set_option linter.unusedSimpArgs false
open Go.RowKit Go.Shelf
set_option maxRecDepth 20000
theorem app_in13 {F:Fence} {n:Nat} {P:Program} (w:World) {ops:Array Oper} {rest:List Oper} {o:Oper} {a:Act} {Q:Exit→Act→World→Prop} (hg:o.guard=none) (s x:Operand) (t:TypeId)
  (hop:o.op=Op.call { callee:=Callee.builtin Builtin.append,args:=#[s,x],argTypes:=#[t,t] }) (v:Value) (ad:Addr) (m c:Nat) (hs:a.eval s=v) (hx:a.eval x=.slice (some ad) m c) (v':Value) (w':World)
  (hrun:(Builtin.append_ #[t,t] o.type #[v,.slice (some ad) m c]).run P w=.ok v' w') (hK:wpListIn F n P ops Q rest (a.put o.dst v') w'):wpListIn F n P ops Q (o :: rest) a w:=by
 refine wpListIn_plain hg fun K hK'=>⟨?_,?_⟩
 ·simp [Oper.about,hop,resolve,Target.leads,Sem.run_pure]
 ·rw [Oper.semAt_plain F _ _ (by rw [hop];intro c hc';cases hc')]
  simp [execOp,hop,resolve,invoke,builtin,hs,hx,hrun,Result.andThen]
  exact hK' _ _ hK
attribute [local go_sem] Oper.semAt_some
def normOnly (Q:Exit→Act→World→Prop):Exit→Act→World→Prop
 | .normal,a,w=>Q .normal a w
 | _,_,_=>False
theorem normOnly_to {Q:Exit→Act→World→Prop}:∀ (e:Exit) (a:Act) (w:World),normOnly Q e a w→Q e a w
 | .normal,_,_,h=>h
theorem normOnly_region {P:Program} {ops:Array Oper} {Q:Exit→Act→World→Prop} {S:World→Prop} {id:Nat} {a:Act} {w:World} (hm:P.follows .mixedOrders=true) (hS:S w.drew)
  (h:S w.drew→wpAnyH P .any ops (normOnly Q) S ops.size (Array.replicate ops.size false) a w.drew):(Code.region id ops true).wp P (normOnly Q) a w:=wp_region_held_drew hm hS h
set_option maxRecDepth 100000 in
set_option maxHeartbeats 8000000 in
theorem rows13_any (s:Value) (L:List It) (w:World) (h:ChS w s L) :
  Calls Tryz.prog 32 #[.agg #[s]] w fun e w'=>∃ v',e=.returned (.tuple #[v',.string (catF (rowsS L).2)])∧EnsAt w' v' (rowsS L).1∧Below w.heap.size w w':=by
 have HG:=Lib.hid h.good
 have HCH:=Lib.hid h
 have HVC:Hid (∀ b a n c,L≠[]→s=.slice (some a) n c→b=a.block→b<w.heap.size):=Lib.hid (fun b a n c hl e hb=>by
  obtain ⟨a',cap,e',_,_,hc⟩:=h.its
  rw [e] at e'
  cases e'
  obtain ⟨t0,ht0⟩:∃ t,L[0]?=some t:=⟨_,List.getElem?_eq_getElem (by cases L with|nil=>exact absurd rfl hl|cons _ _=>simp)⟩
  obtain ⟨g,off,ha,hg,_⟩:=hc 0 t0 ht0
  cases ha
  rw [hb]
  exact hg)
 obtain ⟨a7,n7,p7,rfl⟩:=h.form
 clear h
 refine (callsIn_wide (n:=10)).1 ?_
 refine callsIn_of_wp_marks Tryz.func32 rfl trivial ?_ rfl
 simp only [Tryz.ntmps32,List.size_toArray,List.length_cons,List.length_nil,Nat.reduceAdd,Nat.reduceSub,Array.replicate_succ,Array.replicate_zero,List.push_toArray,List.append_toArray,List.nil_append,List.cons_append]
 have HB0:Hid (Below w.heap.size w (w.alloc (.cells #[.slice a7 n7 p7] 29))):=Lib.hid (below_oneC _ _)
 have HC0:=Lib.hid (one_new w (.slice a7 n7 p7) 29)
 have HNW:=Lib.hid (new_any (w.alloc (.cells #[.slice a7 n7 p7] 29)))
 gi_wp2
 generalize hW0:w.alloc (.cells #[.slice a7 n7 p7] 29)=W0 at *
 refine ⟨trivial,(callsIn_wide.2 HNW.out).mono ?_⟩
 rintro y w1 ⟨pv,Sp,rfl,hpool,hbas,hb1⟩
 obtain ⟨pa,rfl⟩:=hpool.ptr
 have HBW1:=Lib.hid (HB0.out.trans (hb1.mono HB0.out.size))
 have HC1:=Lib.hid (HC0.out.below hb1)
 have HP1:=Lib.hid hpool
 have HPL:=Lib.hid (fun b (hb:Sp b)=>hpool.lt b hb)
 have HBS:=Lib.hid (fun b (hb:Sp b)=>Nat.le_trans HB0.out.size (hbas b hb))
 have HEA:=Lib.hid (fun X (hX:Below w.heap.size w X)=>each13_any (.slice a7 n7 p7) L X (HCH.out.below hX))
 have cc:=HC1.out.cell
 have hlc:w.heap.size<w1.heap.size:=HC1.out.lt
 clear hpool hbas hb1 hW0 HB0 HC0 HNW
 gi_wp2
 obtain ⟨W2,hW2⟩:∃ W2,(w1.alloc (.cells #[.pointer (some pa)] 141)).alloc (.cells #[.slice none 0 0] 55)=W2:=⟨_,rfl⟩
 have hz2:w1.heap.size+2≤W2.heap.size:=by rw [← hW2];simp
 have hb12:Below w1.heap.size w1 W2:=by rw [← hW2];go_grown
 have HBp:One W2 w1.heap.size (.pointer (some pa)):=by rw [← hW2];exact (one_new w1 _ _).alloc _
 have HBl:One W2 (w1.heap.size+1) (.slice none 0 0):=by
  have h:=one_new (w1.alloc (.cells #[.pointer (some pa)] 141)) (.slice none 0 0) 55
  rw [World.size_alloc] at h
  rw [← hW2]
  exact h
 try rw [hW2]
 have hbw2:Below w.heap.size w W2:=HBW1.out.trans (hb12.mono HBW1.out.size)
 have HR2:Hid (RwP w w.heap.size w1.heap.size (w1.heap.size+1) (.pointer (some pa)) [] [] (.slice none 0 0) Sp W2):=Lib.hid
  ⟨HBp,HBl,ownE_nil _ _ _,HP1.out.belowG hb12,fun h=>by have:=HP1.out.lt _ h;omega,fun h=>by have:=HP1.out.lt _ h;omega,(fun b h=>by cases h),by omega,HBS.out,by omega,hbw2⟩
 refine ⟨trivial,(callsIn_wide.2 (HEA.out _ hbw2)).mono ?_⟩
 rintro y w3 ⟨rfl,hcell,hb3⟩
 have hR3:=HR2.out.later hb3
 have HITS:=Lib.hid ((HCH.out.below (hbw2.trans (hb3.mono hbw2.size))).its)
 have hz3:=hb3.size
 have hVV:∀ b,VC W2.heap.size (.slice a7 n7 p7) L b→b<w3.heap.size∧(b=W2.heap.size∨b<w.heap.size):=fun b hb=>by
  rcases hb with rfl|⟨hl,a,n,c,e,hb⟩
  ·exact ⟨vcell_lt hcell,.inl rfl⟩
  ·have:=HVC.out b a n c hl e hb
   exact ⟨by omega,.inr this⟩
 have HCE:=Lib.hid hcell
 have HR3:=Lib.hid hR3
 have HVV:=Lib.hid hVV
 clear hcell hR3 hVV hW2 HBp HBl hb12 HR2 HP1 HC1 HEA cc
 gi_wp2
 refine range_d2 (n:=10) (val:=fun k=>.int .u64 (idC L k)) (va2:=fun k=>.string (txC L k)) (r:=6) (s:=7) rfl (enters_of Tryz.func132 (by kernel_rfl) rfl) (peach1_seq (.slice a7 n7 p7) L W2.heap.size w3 HITS.out HCE.out).toY (Below.refl _ _) (fun _ h=>h.elim) (fun b hb=>(HVV.out b hb).1)
  (RwI w w.heap.size w1.heap.size (w1.heap.size+1) (.pointer (some pa)) L) (fun _ _ _=>False) ?hI (fun _ _ _ _ _ h _ _=>h) (fun k S W h=>⟨trivial,h.lt⟩) (blkR (w1.heap.size+1) (.slice none 0 0) Sp) ?hS0 ?h0 (fun _ _ _ _ _ _ _ _=>trivial) (fun _ _ _ _ _ _ _ _ _=>trivial) ?assign ?body ?done (fun _ _ _ _ _ _ h _=>h.elim)
 case hI=>exact rwi_bears w w.heap.size w1.heap.size (w1.heap.size+1) (.pointer (some pa)) L w3.heap.size HR3.out.size
 case hS0 =>
  intro b hb
  refine ⟨HR3.out.lt b hb,fun hv=>?_⟩
  have h1:=HR3.out.low b hb
  rcases (HVV.out b hv).2 with rfl|h2
  ·rcases hb with hb|hb|hb
   ·omega
   ·cases hb
   ·have:=HPL.out _ hb;omega
  ·omega
 case h0=>exact ⟨_,_,HR3.out,fun b=>Iff.rfl⟩
 case assign =>
  intro lq k W' K hK
  simp only [List.setIfInBounds_toArray,List.set_cons_zero,List.set_cons_succ] at hK ⊢
  gi_wp2
  exact hK
 case body =>
  rintro lq k S W hlq ⟨vo,Sq,hR,hS⟩-hk
  obtain ⟨⟨x,t⟩,htk⟩:∃ t,L[k]?=some t:=⟨_,List.getElem?_eq_getElem hk⟩
  have hidk:idC L k=(x:Int):=by unfold idC;rw [List.getD_eq_getElem?_getD,htk];rfl
  have htxk:txC L k=t:=by unfold txC;rw [List.getD_eq_getElem?_getD,htk];rfl
  have hm:=List.mem_of_getElem? htk
  have hri:=rinv_take HG.out k (Nat.le_of_lt hk)
  have hNX:(rowsS (L.take (k+1))).1=addE (rowsS (L.take k)).1 ⟨x,offA (rowsS (L.take k)).2 t,lenA (rowsS (L.take k)).2 t,1⟩:=by rw [rowsS_step L k _ htk];rfl
  have hNT:(rowsS (L.take (k+1))).2=newL (rowsS (L.take k)).2 t:=by rw [rowsS_step L k _ htk];rfl
  have hlen:=hri.len
  have hgad:=hri.good.add t
  have hok:=hri.ok
  have hfw:=hri.few
  have hex:=congrArg List.length hri.exp
  have hfew:=HG.out.few
  have hS':S=blkR (w1.heap.size+1) vo Sq:=funext fun b=>propext (hS b)
  subst hS'
  clear hS
  generalize hrows:(rowsS (L.take k)).1=rows at *
  generalize hts:(rowsS (L.take k)).2=ts at *
  rw [List.length_take] at hlen hfw
  have hpl:=new_place (ts:=ts) (s:=t) (HG.out.pos _ hm) (HG.out.short _ hm) (by omega)
  have hfl:=findF_le _ _ _ _ hpl.2
  have htt:totF (newL ts t)≤134217728:=hgad.tot
  have hts2:t.size≤65536:=HG.out.short _ hm
  have hxl:=HG.out.low _ hm
  have hrn:∀ e ∈ rows,e.rn≤2048:=fun e he=>by have:=run_le (d:=catF ts) he;rw [List.length_take] at hex;omega
  have hmr:MaysN rows:=fun e he=>(hok e he).may
  dsimp only at hxl
  rw [hpl.1] at hNX
  obtain ⟨e1,he1⟩:∃ e1:En,e1=⟨x,offA ts t,t.size,1⟩:=⟨_,rfl⟩
  rw [← he1] at hNX
  have HNX:=Lib.hid hNX
  have HNT:=Lib.hid hNT
  clear hNX hNT
  have hme1:MayN e1:=by rw [he1];unfold MayN;simp only;omega
  have HAD:=Lib.hid (addR_any (.pointer (some pa)) ts Sq t W hR.pool (by unfold maxLen;omega))
  have hAR:AddR ts t=.tuple #[.agg #[.int .u64 (offA ts t:Nat),.int .u32 (t.size:Nat)],.bool (isNew ts t),.int .i64 (eV ts t:Nat)]:=by unfold AddR;rw [hpl.1]
  rw [hAR] at HAD
  obtain ⟨lo,hlo⟩:∃ lo,lastOne rows e1=lo:=⟨_,rfl⟩
  have hAH:=fun X (h:EnsAt X vo rows)=>ahead_any vo rows e1 X h hmr hme1
  rw [hlo] at hAH
  rw [he1] at hAH
  unfold eC at hAH
  have HAH:=Lib.hid hAH
  have HE1:=Lib.hid he1
  have HLO:=Lib.hid hlo
  have HME:=Lib.hid hmr
  clear hAH hlo
  obtain ⟨av,cv,hvo⟩:∃ a c,vo=.slice a rows.length c:=by
   obtain ⟨a,c,h,_⟩:=hR.out.ensAt
   exact ⟨a,c,h⟩
  subst hvo
  have HR:=Lib.hid hR
  have HOK:=Lib.hid hok
  have HRN:=Lib.hid hrn
  have c1:=hR.bxp.cell
  have hlb:=hR.bxl.lt
  have hlp:=hR.bxp.lt
  rw [hidk,htxk]
  clear hidk htxk hR hok hrn hm hri hlen hgad hex hrows hts hfl htt he1 hAR htk hmr hpl
  generalize offA ts t=oA at *
  generalize isNew ts t=bN at *
  generalize eV ts t=eN at *
  simp only [List.setIfInBounds_toArray,List.set_cons_zero,List.set_cons_succ]
  gi_wp2
  refine ⟨trivial,(CallsIn.inRound lq (callsIn_wide.2 HAD.out)).mono ?_⟩
  rintro y w4 ⟨rfl,Sr,hp4,hk4⟩
  have hr4:=HR.out.add hp4 hk4
  have HR4:=Lib.hid hr4.1
  have HK4:=Lib.hid hr4.2
  have c4:=hr4.1.bxl.cell
  have c4a:∀ O,(w4.alloc O).cell? ⟨w1.heap.size+1,0,none⟩=_:=fun O=>(hr4.1.bxl.alloc O).cell
  have c4b:∀ O O',((w4.alloc O).alloc O').cell? ⟨w1.heap.size+1,0,none⟩=_:=fun O O'=>((hr4.1.bxl.alloc O).alloc O').cell
  clear hp4 hk4 hr4 c1 hlb hlp HAD HR
  gi_wp2
  have HE5:=Lib.hid (EAt.made (w4.alloc (.cells #[.int .u64 (oA:Nat),.int .u32 (t.size:Nat)] 147)) e1 124)
  have hb45:Below w4.heap.size w4 ((w4.alloc (.cells #[.int .u64 (oA:Nat),.int .u32 (t.size:Nat)] 147)).alloc (.cells #[.int .u64 (x:Nat),.int .u64 (oA:Nat),.int .u32 (t.size:Nat),.int .u32 1] 124)):=by go_grown
  rw [HE1.out] at HE5
  unfold eC at HE5
  dsimp only at HE5
  rw [World.size_alloc] at HE5
  have HB45:=Lib.hid hb45
  clear c4 c4a c4b hb45
  generalize hW5:(w4.alloc (.cells #[.int .u64 (oA:Nat),.int .u32 (t.size:Nat)] 147)).alloc (.cells #[.int .u64 (x:Nat),.int .u64 (oA:Nat),.int .u32 (t.size:Nat),.int .u32 1] 124)=W5 at *
  refine ⟨trivial,(CallsIn.inRound lq (callsIn_wide.2 (HAH.out _ (HR4.out.later HB45.out).out.ensAt))).mono ?_⟩
  rintro y w6 ⟨rfl,hb6⟩
  have hb46:=HB45.out.trans (hb6.mono HB45.out.size)
  have HR6:=Lib.hid (HR4.out.later hb46)
  have HK6:=Lib.hid (HK4.out.trans (KeepsS.below _ hb46))
  have he6:=HE5.out.later hb6
  obtain ⟨k0,k1,k2,k3⟩:=he6
  dsimp only at k0 k1 k2 k3
  clear hb6 hb46 hW5 HR4 HK4 HB45 HAH HE5
  cases lo with
  | true =>
   obtain ⟨r,a,rfl,hadd⟩:=addE_yes HLO.out
   have hlt:(r++[a]).length=r.length+1:=by simp
   rw [hlt] at hfw HR6 HK6 ⊢
   have hra:=HRN.out a (by simp)
   have hma:=(HOK.out a (by simp)).may
   unfold MayN at hma
   obtain ⟨go,hu,hcn,hfz⟩:∃ go,av=some ⟨go,0,none⟩∧w6.cell? ⟨go,r.length*4+3,none⟩=some (.int .u32 a.rn)∧w6.frozen? ⟨go,r.length*4+3,none⟩=false:=by
    rcases HR6.out.out.form with ⟨_,h⟩|⟨go,c,h,_,_,_,_,_,hf⟩
    ·simp at h
    ·have hav:av=some ⟨go,0,none⟩:=by injection h
     refine ⟨go,hav,?_,hf _⟩
     obtain ⟨a',c',e,_,_,hcc⟩:=HR6.out.out.ensAt
     have ha':a'=some ⟨go,0,none⟩:=by
      injection e with e' _ _
      rw [← e',hav]
     obtain ⟨g',o',e2,_,hq⟩:=hcc r.length a (by simp)
     rw [ha'] at e2
     cases e2
     simpa using hq.2.2.2
   subst hu
   have hrun:=HR6.out.run (a.rn+1)
   have HN:Hid (RwI w w.heap.size w1.heap.size (w1.heap.size+1) (.pointer (some pa)) L (k+1) (blkR (w1.heap.size+1) (.slice (some ⟨go,0,none⟩) (r.length+1) cv) Sr) (w6.setCell ⟨go,r.length*4+3,none⟩ (.int .u32 (a.rn+1)))∧KeepsS (blkR (w1.heap.size+1) (.slice (some ⟨go,0,none⟩) (r.length+1) cv) Sq) (blkR (w1.heap.size+1) (.slice (some ⟨go,0,none⟩) (r.length+1) cv) Sr) W (w6.setCell ⟨go,r.length*4+3,none⟩ (.int .u32 (a.rn+1)))):=Lib.hid
    ⟨⟨_,_,by rw [HNX.out,HNT.out,hadd];exact hrun.1,fun b=>Iff.rfl⟩,HK6.out.trans hrun.2⟩
   have c6:=HR6.out.bxl.cell
   have hrl:r.length≤2048:=by omega
   have hi1:IntKind.i64.wrap ((r.length:Int)+1-1)=(r.length:Int):=by rw [IntKind.wrap_i64];omega
   have hi2:IntKind.i64.wrap (r.length:Int)=(r.length:Int):=by rw [IntKind.wrap_i64];omega
   have hi3:(r.length:Int)<(r.length:Int)+1:=by omega
   have hi4:IntKind.u32.wrap (a.rn+1)=a.rn+1:=by rw [IntKind.wrap_u32];omega
   clear hrun hadd hlt HR6 HK6 hma hra HRN HOK HLO HNX HNT HME
   generalize r.length=rl at *
   gi_wp2
   exact ⟨_,HN.out⟩
  | false =>
   have hadd:=addE_no HLO.out
   have hba:Below w6.heap.size w6 (w6.alloc (.cells (eC e1) 124)):=below_oneC _ _
   have hr7:=HR6.out.later hba
   have hea:=EAt.made w6 e1 124
   obtain ⟨v8,w8,hr8,ho8,hg8,hl8⟩:=peappend_run (w6.alloc (.cells (eC e1) 124)) 55 w.heap.size (.slice av rows.length cv) rows e1 w6.heap.size 1 hr7.out hea (by omega) hr7.size
   have hb8:One w8 (w1.heap.size+1) (.slice av rows.length cv):=hr7.bxl.keep (hg8.block _ hr7.bxl.lt (fun e=>own_oneE hr7.out hr7.bxl e.symm))
   have happ:=hr7.app ho8 hg8 hl8
   have HN:Hid (RwI w w.heap.size w1.heap.size (w1.heap.size+1) (.pointer (some pa)) L (k+1) (blkR (w1.heap.size+1) v8 Sr) (w8.setCell ⟨w1.heap.size+1,0,none⟩ v8)∧KeepsS (blkR (w1.heap.size+1) (.slice av rows.length cv) Sq) (blkR (w1.heap.size+1) v8 Sr) W (w8.setCell ⟨w1.heap.size+1,0,none⟩ v8)):=Lib.hid
    ⟨⟨_,_,by rw [HNX.out,HNT.out,hadd];exact happ.1,fun b=>Iff.rfl⟩,(HK6.out.trans (KeepsS.below _ hba)).trans happ.2⟩
   obtain ⟨a8,n8,p8,rfl⟩:∃ a n c,v8=.slice a n c:=by
    obtain ⟨a,c,h,_⟩:=ho8.ensAt
    exact ⟨a,_,c,h⟩
   have c6:=HR6.out.bxl.cell
   have c8:=hb8.cell
   have f8:=hb8.frz
   rw [HE1.out] at hr8
   unfold eC at hr8
   dsimp only at hr8
   clear happ hb8 ho8 hg8 hl8 hea hr7 hba hadd HR6 HK6 HRN HOK HLO HNX HNT HME
   gi_wp2_with (first|(gi_at_builtin;refine app_in13 _ rfl _ _ _ rfl _ _ _ _ rfl rfl _ _ hr8 ?_)|fail)
   exact ⟨_,HN.out⟩
 case done =>
  rintro D S W hD hSD ⟨vo,Sq,hR,hS⟩-hDW
  rw [List.take_length] at hR
  obtain ⟨av,cv,hvo⟩:∃ a c,vo=.slice a (rowsS L).1.length c:=by
   obtain ⟨a,c,h,_⟩:=hR.out.ensAt
   exact ⟨a,c,h⟩
  subst hvo
  have HR:=Lib.hid hR
  have HTX:=Lib.hid (fun X (hX:Below W.heap.size W X)=>text_any (.pointer (some pa)) (rowsS L).2 Sq X (hR.pool.belowG hX))
  have HCC:Hid (∀ w',Below W.heap.size W w'→(w'.cell? ⟨w1.heap.size+1,0,none⟩=some (.slice av (rowsS L).1.length cv)∧w'.cell? ⟨w1.heap.size,0,none⟩=some (.pointer (some pa)))∧Below W.heap.size W w'):=Lib.hid (fun X hX=>⟨⟨(hR.bxl.below hX).cell,(hR.bxp.below hX).cell⟩,hX⟩)
  have HD:=Lib.hid hDW
  have HDL:=Lib.hid hD
  clear hR hDW hS hD
  gi_wp2
  refine wpIn_wide.2 (wp_mono (normOnly_region (S:=fun w'=>(w'.cell? ⟨w1.heap.size+1,0,none⟩=some (.slice av (rowsS L).1.length cv)∧w'.cell? ⟨w1.heap.size,0,none⟩=some (.pointer (some pa)))∧Below W.heap.size W w') (by kernel_rfl) (HCC.out _ (Below.drew (Below.refl _ _))) (fun hH0=>?_)) normOnly_to)
  refine takeH (i:=0) (d:=47) (v:=?_) rfl rfl (Or.inl ⟨by rfl,?y0⟩) hH0 ?_
  case y0=>intro w hSw;go_simp;try with_reducible rfl
  try simp only [Act.put,zsA,zsB,zsC]
  refine takeH (i:=1) (d:=48) (v:=?_) rfl rfl (Or.inl ⟨by rfl,?y1⟩) hH0 ?_
  case y1=>intro w hSw;go_simp;try with_reducible rfl
  try simp only [Act.put,zsA,zsB,zsC]
  refine wpAnyH_ready (rs:=[2]) (by kernel_rfl) (by simp) ?_
  refine AllReadyH.cons rfl (fun K hK=>?_) AllReadyH.nil
  go_simp
  refine (HTX.out _ hH0.2).mono ?_
  rintro e w' ⟨rfl,hb⟩
  go_wp2_with fail
  refine hK.out _ _ (HCC.out _ (hH0.2.trans (hb.mono hH0.2.size))) (fun hH1=>?_)
  clear hK K hb hH0
  try simp only [Act.put,zsA,zsB,zsC]
  refine takeH (i:=3) (d:=2) (v:=?_) rfl rfl (Or.inl ⟨by rfl,?y3⟩) hH1 ?_
  case y3=>intro w hSw;go_simp;try with_reducible rfl
  try simp only [Act.put,zsA,zsB,zsC]
  refine takeH (i:=4) (d:=3) (v:=?_) rfl rfl (Or.inl ⟨by rfl,?y4⟩) hH1 ?_
  case y4=>intro w hSw;go_simp;try with_reducible rfl
  try simp only [Act.put,zsA,zsB,zsC]
  refine wpAnyH_done (by kernel_rfl) ?_ _
  dsimp only [normOnly]
  gi_wp2
  have hK9:=(hH1.2.block D (hlt_of HD.out)).trans HD.out
  have hR9:=(HR.out.later hH1.2).grown (grownBy_putObj' _ D (.deferred none)) (fun r e=>by cases e;exact ⟨Nat.le_trans HR3.out.size HDL.out,_,hK9,rfl⟩)
  refine ⟨by simp,.inl ⟨_,_,rfl,run_takeDeferred hK9,?_⟩⟩
  refine ⟨_,results_tmp2 rfl _ _ _,?_⟩
  exact ⟨_,rfl,hR9.out.ensAt,hR9.bel⟩
end Go.Proofs.YtdnmgpcfgcidbaaGreatDoor
